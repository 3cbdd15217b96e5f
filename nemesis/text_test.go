package nemesis_test

import (
	"strings"
	"testing"

	"amnesia/api"
)

// Blanks, lines that say nothing, the order of lines and of errors, and where a text ends.

func TestBlanks(t *testing.T) {
	for _, line := range []string{"split 1 2", " split 1 2", "split 1 2 ", "    split  1   2     ", strings.Repeat(" ", 3000) + "split" + strings.Repeat(" ", 3000) + "1 2"} {
		for _, plan := range []string{head + line, head + line + "\n", head + " \n" + line + "\n  ", "  group 1   20 6 \n client 0\nclient  5  \n" + line} {
			expectRight(t, plan)
		}
	}
	for _, blank := range []string{"\t", "\r", "\v", "\f", "\x00", "\u00a0", "\u0085", "\u2003", "\u2028", "\u3000", "\ufeff", "\x85", "\xa0", "\xff"} {
		for _, line := range []string{"run" + blank + "1", blank + "run 1", "run 1" + blank, "run " + blank + " 1", "run 1 " + blank, blank + " run 1", blank, " " + blank + " "} {
			expectWrong(t, head+line, 4, api.ErrPlan)
			expectWrong(t, line+"\n"+head, 1, api.ErrPlan)
		}
	}
	expectWrong(t, "group 1 20 6\r\nheal\r\n", 1, api.ErrPlan)
}

func TestLinesThatSayNothing(t *testing.T) {
	for _, n := range []string{"", " ", "     ", "#", "# ", " #", "   # run 1", "#run 1", "##", "# group 1 20 6", "#\trun", "#\xff\x00\r", "# none of these", "#" + strings.Repeat(" #", 5000)} {
		plan := lines(n, "group 1 20 6", n, "client 0", n, n, "client 5", n, "crash 1", n, "restart 1", n)
		expectRight(t, plan)
		expectScript(t, plan, 4, crash(1), restart(1, 1))
		expectScript(t, head+"crash 1\n"+n, 4, crash(1))
		expectWrong(t, lines(n, n, "group 1 20 6", n, "run"), 5, api.ErrPlan)
		expectWrong(t, lines(n, n, "run 1", n, "run"), 3, api.ErrOrder)
		expectWrong(t, lines(n, "group 1 20 6", n, "run 1", n, n, "run 0"), 7, api.ErrBudget)
	}
	for _, line := range []string{"run 1 #", "run # 1", "run 1# 1", "run #1", "run 1#", "run# 1", "heal #", "heal # all", "heal#", "x#", "- # x"} {
		expectWrong(t, head+line+"\n", 4, api.ErrPlan)
	}
}

func TestWhereATextEnds(t *testing.T) {
	for _, x := range []struct {
		plan string
		line int
	}{
		{"", 1}, {"\n", 2}, {"\n\n", 3}, {"\n\n\n", 4}, {" ", 2}, {" \n", 2}, {" \n ", 3}, {"#", 2}, {"#\n", 2}, {"#\n#", 3}, {"#\n#\n\n", 4}, {strings.Repeat("\n", 100), 101},
	} {
		expectWrong(t, x.plan, x.line, api.ErrOrder)
	}
	for _, plan := range []string{"group 1 20 6", "group 1 20 6\n", "\n\ngroup 1 20 6\n\n\n", head, head + "\n", head + "#"} {
		expectScript(t, plan, 1)
	}
	expectScript(t, head+"crash 1", 1, crash(1))
	expectScript(t, head+"crash 1\n", 1, crash(1))
	expectScript(t, head+"crash 1\n\n", 1, crash(1))
	expectWrong(t, head+"crash", 4, api.ErrPlan)
	expectWrong(t, head+"crash\n1", 4, api.ErrPlan)
	expectWrong(t, head+"clock 1\n", 4, api.ErrPlan)
}

func TestLinesInTheWrongPlace(t *testing.T) {
	for _, line := range goodLines {
		if strings.HasPrefix(line, "group") {
			continue
		}
		expectWrong(t, lines(line), 1, api.ErrOrder)
		expectWrong(t, line, 1, api.ErrOrder)
		expectWrong(t, lines(line, "group 1 20 6"), 1, api.ErrOrder)
		expectWrong(t, lines("", "# a", line, "group 1 20 6"), 3, api.ErrOrder)
		expectWrong(t, lines("group 1 20 6", line, "group 1 20 6"), 3, api.ErrOrder)
		expectWrong(t, lines("group 1 20 6", line, "group 1 20 6 unguarded"), 3, api.ErrOrder)
		if line == "client 0" {
			continue
		}
		expectWrong(t, lines("group 1 20 6", line, "client 0"), 3, api.ErrOrder)
		expectWrong(t, lines("group 1 20 6", "client 0", line, "", "client 0", line), 5, api.ErrOrder)
		expectWrong(t, lines("group 1 20 6", line, line, "client 1"), 4, api.ErrOrder)
	}
	expectWrong(t, lines("group 1 20 6", "group 1 20 6"), 2, api.ErrOrder)
	expectWrong(t, lines("group 1 20 6", "client 0", "group 1 20 6 unguarded"), 3, api.ErrOrder)
	expectWrong(t, lines("group 1 20 6", "", "#", "group 2 20 6"), 4, api.ErrOrder)
	expectRight(t, lines("", "# a", "   ", "group 1 20 6", "", "client 0", "# b", "client 5", "", "crash 1", "#"))
}

// ErrPlan ahead of ErrOrder in one line; over several lines the first that is wrong; all of these ahead of ErrConfig and ErrSetup, and those ahead of ErrBudget.
func TestWhichErrorIsTold(t *testing.T) {
	many := strings.Repeat("client 0\n", 17)
	for _, x := range []struct {
		plan string
		line int
		e    api.Errno
	}{
		{"client x\ngroup 1 20 6\n", 1, api.ErrPlan},
		{"client\n", 1, api.ErrPlan},
		{"run\ngroup 1 20 6\n", 1, api.ErrPlan},
		{"heal 1\ngroup 1 20 6\n", 1, api.ErrPlan},
		{"split\n", 1, api.ErrPlan},
		{"group 1 20 6\ngroup 1 20\n", 2, api.ErrPlan},
		{"group 1 20 6\ngroup 1 20 6 guarded\n", 2, api.ErrPlan},
		{"group 1 20 6\nheal\nclient 01\n", 3, api.ErrPlan},
		{"group 1 20 6\nheal\nclient 0 0\n", 3, api.ErrPlan},
		{"group 1 20 6\nrun 1\ngroup 1 20 x\n", 3, api.ErrPlan},
		{"client 0\nx\ngroup 1 20 6\n", 1, api.ErrOrder},
		{"x\nclient 0\ngroup 1 20 6\n", 1, api.ErrPlan},
		{"heal\n\nx\n", 1, api.ErrOrder},
		{"run 0\n", 1, api.ErrOrder},
		{"crash 9\ngroup 1 20 6\n", 1, api.ErrOrder},
		{"group 1 20 6\ngroup 1 20 6\nx\n", 2, api.ErrOrder},
		{"group 1 20 6\nx\ngroup 1 20 6\n", 2, api.ErrPlan},
		{"group 1 20 6\nheal\nclient 0\nrun\n", 3, api.ErrOrder},
		{"group 1 20 6\nheal\nrun\nclient 0\n", 3, api.ErrPlan},
		{"group 1 20 6\nrun 0\nclient 0\n", 3, api.ErrOrder},
		{"group 1 20 6\nrun 0\nrun x\n", 3, api.ErrPlan},
		{"group 1 20 6\nrun 0\nfault 0 0 0\n", 3, api.ErrPlan},
		{"x", 1, api.ErrPlan},
		{"\n\nx\n", 3, api.ErrPlan},
		{"group 0 20 6\nx\n", 2, api.ErrPlan},
		{"group 0 20 6\ngroup 1 20 6\n", 2, api.ErrOrder},
		{"group 0 20 6\n" + many, 0, api.ErrConfig},
		{"group 0 20 6\nrun 0\n", 0, api.ErrConfig},
		{"group 1 20 5\ncrash 3\n", 0, api.ErrConfig},
		{"group 4 20 6\ncrash 8\n", 0, api.ErrConfig},
		{group + many + "run 0\n", 0, api.ErrSetup},
		{group + many + "run\n", 19, api.ErrPlan},
		{group + many + "heal\nclient 0\n", 20, api.ErrOrder},
		{group + "crash 3\nrun 0\n", 2, api.ErrBudget},
		{group + "run 0\ncrash 3\n", 2, api.ErrBudget},
		{group + "run 2000\ncrash 3\nrun 1\n", 3, api.ErrBudget},
		{group + "run 2000\nrun 1\ncrash 3\n", 3, api.ErrBudget},
		{group + "split 2 2\nsplit 3\n", 2, api.ErrBudget},
		{group + "heal\nfault 50 50 1 0\nrun 0\n", 3, api.ErrBudget},
	} {
		expectWrong(t, x.plan, x.line, x.e)
	}
}

// filled: a text of just so many bytes, the last line a remark that does not end.
func filled(text string, bytes int) string {
	return text + "#" + strings.Repeat("x", bytes-len(text)-1)
}

func TestMaxText(t *testing.T) {
	for _, plan := range []string{head, head + "crash 1\n", "\n" + head} {
		expectRight(t, filled(plan, api.MaxText))
		expectRight(t, filled(plan, api.MaxText-1)+"\n")
		for _, more := range []int{1, 2, 1000, api.MaxText} {
			expectWrong(t, filled(plan, api.MaxText+more), 0, api.ErrText)
		}
	}
	expectScript(t, filled(head+"crash 1\n", api.MaxText), 1, crash(1))
	// Ahead of all other errors.
	for _, plan := range []string{"", "x\n", "heal\n", "group 0 20 6\n", group + "run 0\n", group + group} {
		expectWrong(t, filled(plan, api.MaxText+1), 0, api.ErrText)
	}
	expectWrong(t, strings.Repeat("\n", api.MaxText+1), 0, api.ErrText)
	expectWrong(t, filled("x\n", api.MaxText), 1, api.ErrPlan)
	expectWrong(t, filled("", api.MaxText), 2, api.ErrOrder)
	expectWrong(t, strings.Repeat(" ", api.MaxText), 2, api.ErrOrder)
	// A line may be as long as the text.
	expectWrong(t, group+"split "+strings.Repeat("1 ", (api.MaxText-len(group)-6)/2), 2, api.ErrBudget)
	expectRight(t, group+"split"+strings.Repeat(" ", api.MaxText-len(group)-6)+"1")
}

func TestMaxLines(t *testing.T) {
	full := strings.Repeat("heal\n", api.MaxLines-1)
	expectRight(t, group+full)
	expectRight(t, group+strings.TrimSuffix(full, "\n"))
	expectRight(t, group+strings.Repeat("\n", api.MaxLines-1))
	expectRight(t, strings.Repeat("#\n", api.MaxLines-1)+group)
	for _, more := range []string{"heal", "heal\n", "\n", "#", " ", "x", "run", "run 0\n", "client 0\n", strings.Repeat("\n", 1000), "heal\nx\n"} {
		expectWrong(t, group+full+more, api.MaxLines+1, api.ErrText)
	}
	expectWrong(t, strings.Repeat("\n", api.MaxLines), api.MaxLines+1, api.ErrOrder)
	expectWrong(t, strings.Repeat("\n", api.MaxLines-1)+"#", api.MaxLines+1, api.ErrOrder)
	expectWrong(t, strings.Repeat("\n", api.MaxLines+1), api.MaxLines+1, api.ErrText)
	expectWrong(t, strings.Repeat("\n", api.MaxLines)+group, api.MaxLines+1, api.ErrText)
	// A line ahead of the one too many may be wrong; what is told behind all lines is not asked.
	expectWrong(t, group+full[5:]+"x\nheal\n", api.MaxLines, api.ErrPlan)
	expectWrong(t, group+full[5:]+"client 0\nheal\n", api.MaxLines, api.ErrOrder)
	expectWrong(t, "heal\n"+full+"heal\n", 1, api.ErrOrder)
	expectWrong(t, group+"x\n"+full, 2, api.ErrPlan)
	expectWrong(t, group+"run 0\n"+full, api.MaxLines+1, api.ErrText)
	expectWrong(t, "group 0 20 6\n"+full+"heal\n", api.MaxLines+1, api.ErrText)
	expectWrong(t, group+full[5:]+"run 0\n", api.MaxLines, api.ErrBudget)
}
