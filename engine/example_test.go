package engine_test

import (
	"slices"
	"strings"
	"testing"

	"amnesia/api"
	"amnesia/engine"
)

// The chapter's example, and the ten examples of the whole.

const example = `group 1 4 6
client 0
submit 0 write 7 61
round 4
look 0
judge
`

func TestTheExample(t *testing.T) {
	expectReport(t, example,
		"> submit 0 write 7 61",
		"sent 3",
		"> round 4",
		"done 0 0 1 0 1",
		"reply 0 1 written 7 61",
		"done 1 0 1 0 1",
		"done 2 0 1 0 1",
		"sent ..",
		"> look 0",
		"normal 0 1 1",
		"vector 0.0 0.0 0.0",
		"> judge",
		"few -",
		"fresh -",
		"genuine -",
		"sequence 1",
		"fault -",
	)
	expectParsed(t, example, setupOf(three, 0), api.Event{Kind: api.EventSubmit, Op: write(7, "a")}, api.Event{Kind: api.EventRound, Count: 4})
	expectPrinted(t, setupOf(three, 0), "group 1 4 6\nclient 0\nsubmit 0 write 7 61\nround 4\n", api.Event{Kind: api.EventSubmit, Op: write(7, "a")}, api.Event{Kind: api.EventRound, Count: 4})
	l, e := engine.Batch([]string{example}, 1)
	if e != api.OK || len(l) != 1 || l[0] != (api.Outcome{Report: played(t, example)}) {
		t.Error(l, e)
	}
}

const twoClients = "group 1 4 6\nclient 0\nclient 0\n"

// toldOf: the lines of a report that begin with one of these words.
func toldOf(t *testing.T, text string, words ...string) []string {
	t.Helper()
	var l []string
	for _, line := range modelLines(played(t, text)) {
		if first, _, _ := strings.Cut(line, " "); slices.Contains(words, first) {
			l = append(l, line)
		}
	}
	return l
}

func expectToldOf(t *testing.T, text string, words string, want ...string) {
	t.Helper()
	if got := toldOf(t, text, strings.Split(words, " ")...); !slices.Equal(got, want) {
		t.Fatalf("%q tells of %s %q, want %q", short(text), words, got, want)
	}
}

func TestExamplesOfTheWhole(t *testing.T) {
	one := twoClients + "submit 0 write 7 61\nround 4\n"
	expectToldOf(t, one+"cells 0\n", "reply cell", "reply 0 1 written 7 61", "cell 7 61")
	two := one + "submit 1 write 7 62\nround 4\n"
	expectToldOf(t, two, "reply", "reply 0 1 written 7 61", "reply 1 1 taken 7 61")
	three := two + "crash 0\nround 6\n"
	expectTold(t, three+"look 0", "gone 0")
	expectTold(t, three+"look 1", "changing 1 0 2 2", "vector 0.0 0.0 0.0")
	three += "round 3\n"
	expectToldOf(t, three, "down lead", "down 0", "lead 1 1 2")
	for _, node := range []string{"1", "2"} {
		expectTold(t, three+"look "+node, "normal 1 2 2", "vector 0.0 0.0 0.0")
	}
	four := three + "restart 0 0.5\nround 2\n"
	expectToldOf(t, four, "up back", "up 0 0.5", "back 0 1 2")
	expectTold(t, four+"look 0", "normal 1 2 2", "vector 0.5 0.0 0.0")
	expectTold(t, four+"judge", "few -", "fresh -", "genuine -", "sequence 2", "fault -")
	five := four + "crash 0\nrestart 0 0.5\njudge\n"
	if got := behind(t, five); got[0] != "few -" || got[1] == "fresh -" || got[2] != "genuine -" || got[4] != "fault -" {
		t.Error(got)
	}
	six := twoClients + "crash 1\ncrash 2\nsubmit 0 count\nround 500\n"
	expectTold(t, six+"judge", "few 1", "fresh -", "genuine -", "sequence 0", "fault -")
	expectTold(t, six+"ask 0", "client 1 waits", "seen 0")
	seven := "group 1 1 6\nclient 0\nclient 0\nsubmit 0 count\nround 4\nsubmit 1 count\nround 500\n"
	expectTold(t, seven+"ask 0", "client 1 count 0", "seen 1")
	expectTold(t, seven+"ask 1", "client 1 waits", "seen 0")
	eight := twoClients + "submit 0 count\nspoil 0 20 1\ndeliver 0\n"
	expectTold(t, eight)
	expectTold(t, twoClients+"submit 0 count\ndeliver 0\n", "sent 2")
	ten := "group 1 4 6\nclient " + greatest + "\nsubmit 0 read 7\n"
	expectTold(t, ten, "! 150")
}

// 9.: a StartView of view 3, by 0, with an empty log, whose sum is right: an entry that client 0 had an answer to is lost, and the judge tells so.
func TestAForgedMessage(t *testing.T) {
	forged := api.Msg{Kind: api.KindStartView, Node: 0, View: 3, Vector: make(api.Vector, 3)}
	text := twoClients + "submit 0 write 7 61\nround 4\n" + strings.Repeat("drop 0\n", 30) + injected(t, three, forged, "0", "1") + "\n" + injected(t, three, forged, "0", "2") + "\n"
	expectTold(t, text+"pool", "pool 2")
	text += "deliver 0\ndeliver 0\nlook 1\nsubmit 1 write 7 62\nround 100\n"
	expectToldOf(t, text, "normal vector", "normal 3 0 0", "vector 0.0 0.0 0.0")
	expectToldOf(t, text, "reply", "reply 0 1 written 7 61", "reply 1 1 written 7 62")
	got := behind(t, text+"judge")
	if len(got) != 5 || got[0] != "few -" || got[1] != "fresh -" || got[2] == "genuine -" || got[3] != "sequence 1" || got[4] == "fault -" {
		t.Fatal(got)
	}
	said, _, _ := modelParse(text + "judge")
	if want, _ := modelPlay(t, said); !strings.HasSuffix(want, lines(got...)) {
		t.Fatal(got, want)
	}
}
