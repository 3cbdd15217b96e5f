package engine_test

import (
	"math"
	"strings"
	"testing"

	"amnesia/api"
	"amnesia/engine"
)

const greatest = "9223372036854775807"

// said is an event's line, and the event.
type said struct {
	line  string
	event api.Event
}

// saids: each kind of event in each of its forms.
func saids() []said {
	far := math.MaxInt
	return []said{
		{"submit 0 write 7 61", api.Event{Kind: api.EventSubmit, Op: write(7, "a")}},
		{"submit 3 write 0 -", api.Event{Kind: api.EventSubmit, Client: 3, Op: write(0, "")}},
		{"submit " + greatest + " write " + greatest + " 00ff0a20", api.Event{Kind: api.EventSubmit, Client: far, Op: write(far, "\x00\xff\n ")}},
		{"submit 1 append 6162", api.Event{Kind: api.EventSubmit, Client: 1, Op: add("ab")}},
		{"submit 1 append -", api.Event{Kind: api.EventSubmit, Client: 1, Op: add("")}},
		{"submit 0 append " + strings.Repeat("61", 65), api.Event{Kind: api.EventSubmit, Op: add(strings.Repeat("a", 65))}},
		{"submit 15 read 1023", api.Event{Kind: api.EventSubmit, Client: 15, Op: read(1023)}},
		{"submit 0 read 1024", api.Event{Kind: api.EventSubmit, Op: read(1024)}},
		{"submit 2 count", api.Event{Kind: api.EventSubmit, Client: 2, Op: count}},
		{"retry 0", api.Event{Kind: api.EventRetry}},
		{"retry " + greatest, api.Event{Kind: api.EventRetry, Client: far}},
		{"deliver 0", api.Event{Kind: api.EventDeliver}},
		{"deliver 12 cut 3", api.Event{Kind: api.EventDeliver, Index: 12, Cut: 3}},
		{"deliver " + greatest + " cut " + greatest, api.Event{Kind: api.EventDeliver, Index: far, Cut: far}},
		{"deliver 4 cut 0", api.Event{Kind: api.EventDeliver, Index: 4}},
		{"drop 8", api.Event{Kind: api.EventDrop, Index: 8}},
		{"copy 9", api.Event{Kind: api.EventCopy, Index: 9}},
		{"spoil 1 2 3", api.Event{Kind: api.EventSpoil, Index: 1, At: 2, Count: 3}},
		{"spoil 0 0 0", api.Event{Kind: api.EventSpoil}},
		{"spoil 10 20 " + greatest, api.Event{Kind: api.EventSpoil, Index: 10, At: 20, Count: far}},
		{"inject 7 1 616d", api.Event{Kind: api.EventInject, At: 7, Node: 1, Bytes: []byte("am")}},
		{"inject 1 7 -", api.Event{Kind: api.EventInject, At: 1, Node: 7}},
		{"inject 0 0 " + strings.Repeat("0f", api.MaxFrame+1), api.Event{Kind: api.EventInject, Bytes: []byte(strings.Repeat("\x0f", api.MaxFrame+1))}},
		{"tick 1", api.Event{Kind: api.EventTick, Node: 1}},
		{"tick 2 cut 1", api.Event{Kind: api.EventTick, Node: 2, Cut: 1}},
		{"tick 2 cut 0", api.Event{Kind: api.EventTick, Node: 2}},
		{"crash 6", api.Event{Kind: api.EventCrash, Node: 6}},
		{"restart 1 0.5", api.Event{Kind: api.EventRestart, Node: 1, Draw: lo(5)}},
		{"restart 0 0.0", api.Event{Kind: api.EventRestart}},
		{"restart 2 18446744073709551615.18446744073709551615 cut 4", api.Event{Kind: api.EventRestart, Node: 2, Draw: api.Draw{Hi: math.MaxUint64, Lo: math.MaxUint64}, Cut: 4}},
		{"restart 1 17.3 cut 0", api.Event{Kind: api.EventRestart, Node: 1, Draw: api.Draw{Hi: 17, Lo: 3}}},
		{"query 1 2 read 7", api.Event{Kind: api.EventQuery, Client: 1, Node: 2, Op: read(7)}},
		{"query 2 1 count", api.Event{Kind: api.EventQuery, Client: 2, Node: 1, Op: count}},
		{"round 1", api.Event{Kind: api.EventRound, Count: 1}},
		{"round 0", api.Event{Kind: api.EventRound}},
		{"round " + greatest, api.Event{Kind: api.EventRound, Count: far}},
	}
}

var questions = []string{"look 0", "look " + greatest, "cells 1", "cells " + greatest, "ask 0", "ask " + greatest, "pool", "judge"}

func TestEachLine(t *testing.T) {
	var all []api.Event
	text := head
	for _, x := range saids() {
		expectParsed(t, head+x.line+"\n", threeSetup, x.event)
		expectParsed(t, head+x.line, threeSetup, x.event)
		all = append(all, x.event)
		text += x.line + "\n" + pick(seeded(uint64(len(all))), questions...) + "\n"
	}
	expectParsed(t, text, threeSetup, all...)
}

// Questions are looked at, and left out.
func TestEachQuestion(t *testing.T) {
	for _, q := range questions {
		expectParsed(t, head+q+"\n", threeSetup)
		expectParsed(t, "group 1 4 6\n"+q, setupOf(three))
		expectParsed(t, head+"tick 0\n"+q+"\ntick 1", threeSetup, api.Event{Kind: api.EventTick}, api.Event{Kind: api.EventTick, Node: 1})
	}
}

func TestHeads(t *testing.T) {
	far := math.MaxInt
	for text, want := range map[string]api.Setup{
		"group 1 4 6":                                    setupOf(three),
		"group 3 256 100\n":                              setupOf(api.Config{F: 3, Room: 256, Patience: 100}),
		"group 2 9 6 unguarded\n":                        setupOf(api.Config{F: 2, Room: 9, Patience: 6, Unguarded: true}),
		"group 0 0 0\n":                                  setupOf(api.Config{}),
		"group 1 4 6\nclient 0\n":                        setupOf(three, 0),
		"group 1 4 6\nclient 3\nclient 9":                setupOf(three, 3, 9),
		"group 1 4 6\nclient " + greatest:                setupOf(three, far),
		"group " + greatest + " 4 6":                     setupOf(api.Config{F: far, Room: 4, Patience: 6}),
		"group 1 " + greatest + " 6":                     setupOf(api.Config{F: 1, Room: far, Patience: 6}),
		"group 1 4 " + greatest + " unguarded":           setupOf(api.Config{F: 1, Room: 4, Patience: far, Unguarded: true}),
		"group 1 4 6" + strings.Repeat("\nclient 7", 17): setupOf(three, 7, 7, 7, 7, 7, 7, 7, 7, 7, 7, 7, 7, 7, 7, 7, 7, 7),
	} {
		expectParsed(t, text, want)
	}
}

// templates: each kind of line in each of its forms; N stands for a number, B for bytes, D for a draw.
var templates = []string{
	"group N N N", "group N N N unguarded", "client N",
	"submit N write N B", "submit N append B", "submit N read N", "submit N count", "retry N",
	"deliver N", "deliver N cut N", "drop N", "copy N", "spoil N N N", "inject N N B",
	"tick N", "tick N cut N", "crash N", "restart N D", "restart N D cut N",
	"query N N read N", "query N N count", "round N",
	"look N", "cells N", "ask N", "pool", "judge",
}

func right(kind string) []string {
	switch kind {
	case "N":
		return []string{"0", "1", "9", "10", "100", "4611686018427387904", "9223372036854775799", "9223372036854775806", greatest}
	case "B":
		return []string{"-", "00", "ff", "0123456789abcdef", "61", "0a", "a0", strings.Repeat("7f", 100)}
	case "D":
		return []string{"0.0", "0.5", "17.3", "1.0", "10.10", "18446744073709551615.0", "0.18446744073709551615", "18446744073709551615.18446744073709551615"}
	}
	return []string{kind}
}

func wrong(kind string) []string {
	always := []string{"X", "#", "\x00", "\xff", "\t", "\r", "\v", "\u00a0", "\u0085", "--", "''"}
	switch kind {
	case "N":
		return append(always, "", "00", "01", "010", "0"+greatest, "+1", "-1", "+0", "-0", "9223372036854775808", "9223372036854775810", "18446744073709551615", "18446744073709551616",
			"10000000000000000000", "1"+strings.Repeat("0", 200), strings.Repeat("9", 5000), "1.0", "1.", ".1", "1e3", "0x1", "0b1", "1_0", "1,0", "a", "-", "½", "١", "１", "1\t", "\t1", "1\r", "1\x00", "one")
	case "B":
		return append(always, "", "0", "6", "616", "A0", "a0B1", "AF", "6G", "g6", "/0", ":0", "0`", "0@", "-61", "61-", "0x61", "6 1", "61\t", "١١", "6\xff", strings.Repeat("0", 201))
	case "D":
		return append(always, "", "0", "17", "17.", ".3", ".", "017.3", "17.03", "00.0", "0.00", "17.3.", "17.3.1", "17..3", "+1.1", "-1.1", "1.-1", "1.+1", "18446744073709551616.0", "0.18446744073709551616", "1"+strings.Repeat("0", 40)+".0",
			"17,3", "17.3x", "x17.3", "1.\t1", "1 .1", "a.b", "0x1.1", "1_0.1", "-")
	}
	return append(always, strings.ToUpper(kind), strings.ToUpper(kind[:1])+kind[1:], kind[1:], kind[:len(kind)-1], kind+kind, kind+"s", "x"+kind, "'"+kind+"'", kind+"\t", "\t"+kind, kind+"\x00", kind+".", kind+"#", "0")
}

// shapeOf: a template's words, each filled with what is right there.
func shapeOf(template string) []string {
	words := strings.Split(template, " ")
	for i, w := range words {
		words[i] = map[string]string{"N": "1", "B": "61", "D": "0.5"}[w]
		if words[i] == "" {
			words[i] = w
		}
	}
	return words
}

// ahead: what must stand ahead of a template's line, and the line's number.
func ahead(template string) (string, int) {
	if strings.HasPrefix(template, "group") {
		return "", 1
	}
	return "group 1 4 6\n", 2
}

// expectLine: a line is taken, or it is none.
func expectLine(t *testing.T, template, line string, is bool) {
	t.Helper()
	before, number := ahead(template)
	for _, text := range []string{before + line, before + line + "\n", before + line + "\nnone of these\n"} {
		_, _, at, e := engine.Parse(text)
		switch {
		case is && strings.HasSuffix(text, "these\n"):
			if e != api.ErrLine || at != number+1 {
				t.Fatalf("%q: %d, %d", short(text), at, e)
			}
		case is && (e != api.OK || at != 0):
			t.Fatalf("%q: %d, %d", short(text), at, e)
		case !is:
			expectWrong(t, text, number, api.ErrLine)
		}
	}
}

// Each word of each line, right and wrong.
func TestEachWord(t *testing.T) {
	for _, template := range templates {
		for i, kind := range strings.Split(template, " ") {
			for _, w := range right(kind) {
				words := shapeOf(template)
				words[i] = w
				expectLine(t, template, strings.Join(words, " "), true)
			}
			for _, w := range wrong(kind) {
				words := shapeOf(template)
				words[i] = w
				says := w != "" && (i > 0 || w != "#") // what is left out is looked at below, and a line that begins with # says nothing
				if says {
					expectLine(t, template, strings.Join(words, " "), false)
				}
			}
		}
	}
}

// A word too few, at each place, and one too many, at each place. What makes another template is no fault.
func TestNumberOfWords(t *testing.T) {
	for _, template := range templates {
		words := shapeOf(template)
		for i := range words {
			fewer := strings.Join(append(append([]string(nil), words[:i]...), words[i+1:]...), " ")
			if fewer != "" {
				expectLine(t, template, fewer, modelTakes(fewer))
			}
		}
		for i := 1; i <= len(words); i++ {
			for _, w := range []string{"0", "1", "x", "-", "61", "0.5", "cut", "unguarded", "#", "#x", "count", "read"} {
				more := strings.Join(append(append(append([]string(nil), words[:i]...), w), words[i:]...), " ")
				expectLine(t, template, more, modelTakes(more))
			}
		}
	}
	for _, line := range []string{
		"group 1 4", "group", "group 1 4 6 unguarded unguarded", "group 1 4 6 guarded", "client", "client 1 2",
		"submit 0", "submit", "submit 0 write", "submit 0 write 7", "submit 0 write 61", "submit 0 append", "submit 0 append 7 61", "submit 0 read", "submit 0 read 7 61", "submit 0 count 1", "submit write 7 61",
		"retry", "retry 0 0", "deliver", "deliver 0 cut", "deliver 0 1", "deliver 0 cut 1 1", "deliver cut 1", "drop", "drop 0 cut 1", "copy 0 cut 1", "spoil 0 0", "spoil 0 0 1 cut 1",
		"inject 0 0", "inject 0 0 61 61", "tick", "tick 0 cut", "tick 0 0", "crash 0 cut 1", "restart 0", "restart 0.5", "restart 0 cut 1", "restart 0 0.5 cut", "restart 0 0.5 1",
		"query 0 0", "query 0 read 7", "query 0 0 read", "query 0 0 count 1", "query 0 0 write 7 61", "query 0 0 append 61", "round", "round 1 1", "round 1 cut 1",
		"look", "look 0 0", "cells", "cells 0 cut 1", "ask", "ask 0 0", "pool 0", "judge 0", "run 1", "event", "submit0 count",
	} {
		expectWrong(t, "group 1 4 6\n"+line, 2, api.ErrLine)
	}
}
