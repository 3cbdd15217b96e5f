package engine_test

import (
	"strings"
	"testing"

	"amnesia/api"
	"amnesia/engine"
)

// Blanks, lines that say nothing, and where a text ends.

var oneTick = api.Event{Kind: api.EventTick, Node: 1, Cut: 2}

func TestBlanks(t *testing.T) {
	for _, line := range []string{"tick 1 cut 2", " tick 1 cut 2", "tick 1 cut 2 ", "    tick  1   cut    2     ", strings.Repeat(" ", 3000) + "tick" + strings.Repeat(" ", 3000) + "1 cut 2"} {
		for _, text := range []string{head + line, head + line + "\n", head + " \n" + line + "\n  ", "  group 1   4 6 \n client 0\nclient  5  \n" + line} {
			expectParsed(t, text, threeSetup, oneTick)
		}
	}
	for _, blank := range []string{"\t", "\r", "\v", "\f", "\x00", "\u00a0", "\u0085", "\u2003", "\u2028", "\u3000", "\ufeff", "\x85", "\xa0", "\xff"} {
		for _, line := range []string{"tick" + blank + "1", blank + "tick 1", "tick 1" + blank, "tick " + blank + " 1", "tick 1 " + blank, blank + " tick 1", blank, " " + blank + " "} {
			expectWrong(t, head+line, 4, api.ErrLine)
			expectWrong(t, head+line+"\n", 4, api.ErrLine)
			expectWrong(t, line+"\n"+head, 1, api.ErrLine)
		}
	}
	expectWrong(t, "group 1 4 6\r\nclient 0\r\n", 1, api.ErrLine)
}

func TestLinesThatSayNothing(t *testing.T) {
	nothing := []string{"", " ", "     ", "#", "# ", " #", "   # tick 1", "#tick 1", "##", "# group 1 4 6", "#\ttick", "#\xff\x00\r", "# none of these", "#" + strings.Repeat(" #", 5000)}
	for _, n := range nothing {
		expectParsed(t, lines(n, "group 1 4 6", n, "client 0", n, n, "client 5", n, "tick 1 cut 2", n, "pool", n), threeSetup, oneTick)
		expectParsed(t, head+"tick 1 cut 2\n"+n, threeSetup, oneTick)
		expectWrong(t, lines(n, n, "group 1 4 6", n, "tick"), 5, api.ErrLine)
		expectWrong(t, lines(n, n, "tick 1", n, "tick"), 3, api.ErrOrder)
		expectReport(t, lines(n, "group 1 4 6", n, "pool", n, n, "tick 0 cut 1"), "> pool", "pool 0", "> tick 0 cut 1", "down 0")
	}
	for _, line := range []string{"tick 1 #", "tick # 1", "tick 1 # cut 2", "tick #1", "tick 1#", "tick# 1", "pool #", "pool # how many", "pool#", "x#", "- # x"} {
		expectWrong(t, head+line+"\n", 4, api.ErrLine)
	}
}

func TestWhereATextEnds(t *testing.T) {
	for _, x := range []struct {
		text string
		line int
	}{
		{"", 1}, {"\n", 2}, {"\n\n", 3}, {"\n\n\n", 4}, {" ", 2}, {" \n", 2}, {" \n ", 3}, {"#", 2}, {"#\n", 2}, {"#\n#", 3}, {"#\n#\n\n", 4}, {strings.Repeat("\n", 100), 101},
	} {
		expectWrong(t, x.text, x.line, api.ErrOrder)
	}
	expectParsed(t, "group 1 4 6", setupOf(three))
	expectParsed(t, "group 1 4 6\n", setupOf(three))
	expectParsed(t, "\n\ngroup 1 4 6\n\n\n", setupOf(three))
	expectParsed(t, head+"tick 1 cut 2", threeSetup, oneTick)
	expectParsed(t, head+"tick 1 cut 2\n", threeSetup, oneTick)
	expectParsed(t, head+"tick 1 cut 2\n\n", threeSetup, oneTick)
	expectWrong(t, head+"tick 1 cut", 4, api.ErrLine)
	expectWrong(t, head+"tick 1 cut\n2", 4, api.ErrLine)
	expectWrong(t, head+"tick 1 cut\n", 4, api.ErrLine)
}

// The order of lines.
func TestOrder(t *testing.T) {
	for _, q := range append([]string{"tick 1", "submit 0 count", "restart 0 0.5 cut 1", "inject 0 1 -"}, questions...) {
		expectWrong(t, lines(q), 1, api.ErrOrder)
		expectWrong(t, q, 1, api.ErrOrder)
		expectWrong(t, lines(q, "group 1 4 6"), 1, api.ErrOrder)
		expectWrong(t, lines("", "# a", q, "group 1 4 6"), 3, api.ErrOrder)
		expectWrong(t, lines("group 1 4 6", q, "client 0"), 3, api.ErrOrder)
		expectWrong(t, lines("group 1 4 6", "client 0", q, "", "client 0", q), 5, api.ErrOrder)
		expectWrong(t, lines("group 1 4 6", q, "group 1 4 6"), 3, api.ErrOrder)
		expectWrong(t, lines("group 1 4 6", q, q, "pool", "client 1"), 5, api.ErrOrder)
	}
	expectWrong(t, "client 0\n", 1, api.ErrOrder)
	expectWrong(t, "client 0\ngroup 1 4 6\n", 1, api.ErrOrder)
	expectWrong(t, lines("group 1 4 6", "group 1 4 6"), 2, api.ErrOrder)
	expectWrong(t, lines("group 1 4 6", "client 0", "group 1 4 6 unguarded"), 3, api.ErrOrder)
	expectWrong(t, lines("group 1 4 6", "", "#", "group 2 4 6"), 4, api.ErrOrder)
	expectParsed(t, lines("", "# a", "   ", "group 1 4 6", "", "client 0", "# b", "client 5", "", "tick 1 cut 2", "#"), threeSetup, oneTick)
}

// ErrLine ahead of ErrOrder in one line; over several lines the first that is wrong.
func TestLineAheadOfOrder(t *testing.T) {
	for _, x := range []struct {
		text string
		line int
		e    api.Errno
	}{
		{"client x\ngroup 1 4 6\n", 1, api.ErrLine},
		{"tick\ngroup 1 4 6\n", 1, api.ErrLine},
		{"pool 1\ngroup 1 4 6\n", 1, api.ErrLine},
		{"group 1 4 6\ngroup 1 4\n", 2, api.ErrLine},
		{"group 1 4 6\ngroup 1 4 6 guarded\n", 2, api.ErrLine},
		{"group 1 4 6\npool\nclient 01\n", 3, api.ErrLine},
		{"group 1 4 6\ntick 0\ngroup 1 4 x\n", 3, api.ErrLine},
		{"client 0\nx\ngroup 1 4 6\n", 1, api.ErrOrder},
		{"x\nclient 0\ngroup 1 4 6\n", 1, api.ErrLine},
		{"pool\n\nx\n", 1, api.ErrOrder},
		{"group 1 4 6\ngroup 1 4 6\nx\n", 2, api.ErrOrder},
		{"group 1 4 6\nx\ngroup 1 4 6\n", 2, api.ErrLine},
		{"group 1 4 6\npool\nclient 0\ntick\n", 3, api.ErrOrder},
		{"group 1 4 6\npool\ntick\nclient 0\n", 3, api.ErrLine},
		{"x", 1, api.ErrLine},
		{"\n\nx\n", 3, api.ErrLine},
		{"group 0 4 6\nx\n", 2, api.ErrLine},
		{"group 0 4 6\ngroup 1 4 6\n", 2, api.ErrOrder},
	} {
		expectWrong(t, x.text, x.line, x.e)
	}
}

// filled: a text of just so many bytes, the last line a remark that does not end.
func filled(text string, bytes int) string {
	return text + "#" + strings.Repeat("x", bytes-len(text)-1)
}

func TestMaxText(t *testing.T) {
	text := head + "tick 1 cut 2\n"
	expectParsed(t, filled(text, api.MaxText), threeSetup, oneTick)
	expectParsed(t, filled(text, api.MaxText-1)+"\n", threeSetup, oneTick)
	expectParsed(t, strings.Repeat(" ", api.MaxText-len(text))+text, threeSetup, oneTick)
	for _, bytes := range []int{api.MaxText + 1, api.MaxText + 2, 3 * api.MaxText} {
		expectWrong(t, filled(text, bytes), 0, api.ErrText)
		expectWrong(t, filled(text, bytes-1)+"\n", 0, api.ErrText)
		expectWrong(t, filled("x\n"+text, bytes), 0, api.ErrText) // ahead of all else
		expectWrong(t, strings.Repeat("x", bytes), 0, api.ErrText)
		expectWrong(t, strings.Repeat("\n", bytes), 0, api.ErrText)
	}
	expectWrong(t, filled("pool\n", api.MaxText), 1, api.ErrOrder)
	expectWrong(t, strings.Repeat("x", api.MaxText), 1, api.ErrLine)
	expectWrong(t, strings.Repeat("x ", api.MaxText/2), 1, api.ErrLine)
	expectWrong(t, "tick "+strings.Repeat("1", api.MaxText-5), 1, api.ErrLine)
	expectWrong(t, strings.Repeat("\n", api.MaxText), api.MaxLines+1, api.ErrText)
	expectWrong(t, strings.Repeat(" ", api.MaxText), 2, api.ErrOrder)
	long := "inject 0 1 " + strings.Repeat("5a", (api.MaxText-len(head)-11)/2)
	_, l, _, e := engine.Parse(head + long)
	if e != api.OK || len(l) != 1 || string(l[0].Bytes) != strings.Repeat("Z", (api.MaxText-len(head)-11)/2) {
		t.Error(e, len(l))
	}
}

func TestMaxLines(t *testing.T) {
	more := api.MaxLines - 4 // lines to MaxLines behind the head and a tick
	for _, filler := range []string{"", "#", "  ", "pool", "tick 1 cut 2"} {
		text := head + "tick 1 cut 2\n" + strings.Repeat(filler+"\n", more-1)
		events := []api.Event{oneTick}
		if filler == "tick 1 cut 2" {
			for range more - 1 {
				events = append(events, oneTick)
			}
		}
		expectParsed(t, text+"# the last one\n", threeSetup, events...)
		expectParsed(t, text+"# the last one", threeSetup, events...)
		expectParsed(t, text+"\n", threeSetup, events...)
		expectParsed(t, text, threeSetup, events...)
		for _, behind := range []string{"#\n#", "#\n#\n", "\n\n", "\n ", "\n\n\n\n\n", "#\nx", "#\nx\n", "#\ngroup 1 4 6\n", "pool\npool", "#\nclient 0\nx"} {
			expectWrong(t, text+behind, api.MaxLines+1, api.ErrText)
		}
		expectWrong(t, text+"x\n#", api.MaxLines, api.ErrLine)
		expectWrong(t, text+"x\n", api.MaxLines, api.ErrLine)
		expectWrong(t, text+"x", api.MaxLines, api.ErrLine)
		expectWrong(t, text+"client 0\n#", api.MaxLines, api.ErrOrder)
		expectWrong(t, text+"group 1 4 6\nx", api.MaxLines, api.ErrOrder)
		expectWrong(t, "x\n"+text+"#\n#\n", 1, api.ErrLine)
		expectWrong(t, "pool\n"+text+"#\n#\n", 1, api.ErrOrder)
	}
	nothing := strings.Repeat("\n", api.MaxLines-1)
	expectWrong(t, nothing+"#", api.MaxLines+1, api.ErrOrder) // no group
	expectWrong(t, nothing+"\n", api.MaxLines+1, api.ErrOrder)
	expectWrong(t, nothing+"\n#", api.MaxLines+1, api.ErrText)
	expectWrong(t, nothing+"\n\n", api.MaxLines+1, api.ErrText)
	expectWrong(t, nothing+"\ngroup 1 4 6", api.MaxLines+1, api.ErrText)
	expectParsed(t, nothing+"group 1 4 6", setupOf(three))
	expectParsed(t, nothing+"group 1 4 6\n", setupOf(three))
	expectWrong(t, nothing+"group 1 4\n\n", api.MaxLines, api.ErrLine)
	expectWrong(t, nothing+"pool\n\n", api.MaxLines, api.ErrOrder)
}
