package engine_test

import (
	"strings"
	"testing"

	"amnesia/api"
)

// The judge: each premise kept and broken, a fault, and rows that are counted from the run's beginning on.

func TestJudgeAtTheBeginning(t *testing.T) {
	expectTold(t, head+"judge", "few -", "fresh -", "genuine -", "sequence 0", "fault -")
	expectTold(t, head+"submit 0 count\njudge", "few -", "fresh -", "genuine -", "sequence 0", "fault -")
}

func TestFew(t *testing.T) {
	kept := []string{"fresh -", "genuine -", "sequence 0", "fault -"}
	expectTold(t, head+"crash 0\njudge", append([]string{"few -"}, kept...)...)
	expectTold(t, head+"crash 0\ncrash 1\njudge", append([]string{"few 1"}, kept...)...)
	expectTold(t, head+"crash 0\nrestart 0 0.1\ncrash 1\njudge", append([]string{"few 4"}, kept...)...) // Down, Up, Sent, Sent, Down
	expectTold(t, head+"tick 0\ncrash 0\ncrash 2\njudge", append([]string{"few 3"}, kept...)...)
	expectTold(t, "group 2 4 6\ncrash 0\ncrash 1\njudge", append([]string{"few -"}, kept...)...)
	expectTold(t, "group 2 4 6\ncrash 0\ncrash 1\ncrash 4\njudge", append([]string{"few 2"}, kept...)...)
	expectTold(t, head+"crash 3\ncrash 0\njudge\ncrash 1\njudge\ncrash 2\njudge", append([]string{"few 1"}, kept...)...) // what is refused is no row
}

func TestFresh(t *testing.T) {
	first := head + "crash 0\nrestart 0 0.5\ncrash 0\n" // Down, Up, Sent, Sent, Down
	for draw, want := range map[string]string{"0.6": "-", "1.0": "-", "0.5": "5", "0.4": "5", "0.1": "5"} {
		expectTold(t, first+"restart 0 "+draw+"\njudge", "few -", "fresh "+want, "genuine -", "sequence 0", "fault -")
	}
	expectTold(t, first+"restart 0 0.0\njudge", "few -", "fresh -", "genuine -", "sequence 0", "fault -") // the run refuses it
	expectTold(t, first+"crash 1\nrestart 1 0.5\njudge", "few 5", "fresh -", "genuine -", "sequence 0", "fault -")
}

func TestGenuine(t *testing.T) {
	forged := injected(t, three, api.Msg{Kind: api.KindCommit, Vector: make(api.Vector, 3)}, "0", "1")
	expectTold(t, head+forged+"\njudge", "few -", "fresh -", "genuine -", "sequence 0", "fault -")
	expectTold(t, head+forged+"\ndeliver 0\njudge", "few -", "fresh -", "genuine 0", "sequence 0", "fault -")
	expectTold(t, head+"submit 0 count\n"+forged+"\ndeliver 3\njudge", "few -", "fresh -", "genuine 4", "sequence 0", "fault -")
	expectTold(t, head+"tick 0\n"+forged+"\ndeliver 2\njudge", "few -", "fresh -", "genuine -", "sequence 0", "fault -") // the same was sent before
	expectTold(t, head+"inject 0 1 -\ndeliver 0\njudge", "few -", "fresh -", "genuine -", "sequence 0", "fault -")
	expectTold(t, head+forged[:len(forged)-2]+"\ndeliver 0\njudge", "few -", "fresh -", "genuine -", "sequence 0", "fault -")
}

// Faults of other kinds than the forged message of the examples: an entry that nobody asked for, and one that parts from the sequence.
func TestFaults(t *testing.T) {
	request := api.Msg{Kind: api.KindRequest, Entry: api.Entry{Client: 0, Number: 1, Op: count}}
	text := head + injected(t, three, request, "7", "0") + "\nround 3\n"
	expectToldOf(t, text, "done", "done 0 0 1 0 1")
	report := behind(t, text+"judge")
	if report[2] != "genuine 0" || report[3] != "sequence 0" || report[4] == "fault -" {
		t.Fatal(report)
	}
	kept := "submit 1 count\nround 6\njudge\n" // what has come stays, and the sequence goes no further
	if got := behind(t, text+kept); strings.Join(got, "|") != strings.Join(report, "|") {
		t.Fatal(got, report)
	}
}

// The judge goes over all rows, those ahead of an earlier judge too.
func TestJudgeAgain(t *testing.T) {
	text := head
	for i, want := range []string{"sequence 1", "sequence 2", "sequence 3"} {
		text += "submit 0 append 61\nround 4\njudge\n"
		if got := behind(t, text); got[3] != want || got[4] != "fault -" {
			t.Fatal(i, got)
		}
	}
	expectToldOf(t, text, "sequence", "sequence 1", "sequence 2", "sequence 3")
	twice := text + "judge\njudge\npool\n"
	expectToldOf(t, twice, "sequence", "sequence 1", "sequence 2", "sequence 3", "sequence 3", "sequence 3")
}

// Without crash vectors, all premises kept, an entry is lost that a client had an answer to; with them it is not. (Replica 1 calls for a view and starts again; its call comes to 2, who sends its ballot, starts again too, and helps to commit an entry, which 1 does not hear of; then the ballot comes to 1.)
func TestWithoutCrashVectors(t *testing.T) {
	play := strings.Repeat("tick 1\n", 6) + // StartViewChange to 0 and 2: places 0, 1
		"drop 0\n" + // place 0: the call to 2
		"crash 1\nrestart 1 0.5\n" + // Recovery to 0 and 2: places 1, 2
		"deliver 1\ndeliver 1\ndeliver 1\ndeliver 1\n" + // 0 and 2 answer; 1 is back
		"deliver 0\n" // 2 hears the call
	guarded, unguarded := twoClients+play, strings.Replace(twoClients, "6\n", "6 unguarded\n", 1)+play
	expectToldOf(t, guarded, "back", "back 1 0 0")
	expectTold(t, guarded+"look 2", "normal 0 0 0", "vector 0.0 0.5 0.0") // it lets it go
	expectTold(t, unguarded+"look 2", "changing 1 0 0 0", "vector 0.0 0.0 0.0")
	// of what 2 sent the ballot alone is kept: StartViewChange to 0 and 1, DoViewChange to 1
	rest := "drop 0\ndrop 0\ncrash 2\nrestart 2 0.5\ndeliver 1\ndeliver 1\ndeliver 1\ndeliver 1\n" +
		"submit 0 write 7 61\n" + // requests: places 1, 2, 3
		"drop 3\ndrop 2\ndeliver 1\n" + // Prepare to 1 and 2: places 1, 2
		"drop 1\ndeliver 1\ndeliver 1\n" + // PrepareOK; then Reply and Commit to 1 and 2: places 1, 2, 3
		"deliver 1\ndrop 1\ndrop 1\n"
	expectToldOf(t, unguarded+rest, "reply", "reply 0 1 written 7 61")
	expectTold(t, unguarded+rest+"pool", "pool 1")
	expectTold(t, unguarded+rest+"deliver 0", "lead 1 1 0", "sent 4") // the call for the view, and its beginning
	lost := unguarded + rest + "deliver 0\nsubmit 1 write 7 62\nround 200\n"
	expectToldOf(t, lost, "reply", "reply 0 1 written 7 61", "reply 1 1 written 7 62")
	got := behind(t, lost+"judge")
	if got[0] != "few -" || got[1] != "fresh -" || got[2] != "genuine -" || got[3] != "sequence 1" || got[4] == "fault -" {
		t.Fatal(got)
	}
}
