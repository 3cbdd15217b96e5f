package nemesis_test

import (
	"math"
	"slices"
	"strconv"
	"strings"
	"testing"

	"amnesia/api"
	"amnesia/nemesis"
)

// Check: lines, and their numbers.

// place is where a number stands in a line, as %, and its least and its greatest.
type place struct {
	line     string
	least    int
	greatest int
}

// places: each number of each kind of line, in a group of so many replicas.
func places(nodes int) []place {
	return []place{
		{"fault % 0 0 0", 0, 100}, {"fault 0 % 0 0", 0, 100}, {"fault 0 0 % 0", 0, 100}, {"fault 0 0 0 %", 0, 100},
		{"fault % 10 10 10", 0, 70}, {"fault 10 % 10 10", 0, 70}, {"fault 10 10 % 10", 0, 70}, {"fault 10 10 10 %", 0, 70},
		{"split %", 0, nodes - 1}, {"split 0 %", 1, nodes - 1}, {"split % 0", 1, nodes - 1}, {"split 1 0 %", 2, nodes - 1},
		{"clock % 1", 0, nodes - 1}, {"clock 0 %", 0, 9},
		{"load %", 1, 100}, {"run %", 1, 2000}, {"churn % 1", 0, 100}, {"churn 0 %", 1, 2000}, {"calm %", 1, 2000},
		{"crash %", 0, nodes - 1}, {"restart %", 0, nodes - 1}, {"stale %", 0, nodes - 1},
	}
}

func (p place) with(n int) string { return strings.Replace(p.line, "%", strconv.Itoa(n), 1) }

// Each number at its least and its greatest, and beyond.
func TestNumbers(t *testing.T) {
	for _, g := range groups {
		for _, p := range places(g.nodes) {
			for _, n := range []int{p.least, p.least + (p.greatest-p.least)/2, p.greatest - 1, p.greatest} {
				if n >= p.least {
					expectRight(t, g.line+p.with(n))
					expectRight(t, g.line+"client 0\nheal\n"+p.with(n)+"\n")
				}
			}
			for _, n := range []int{p.least - 1, p.greatest + 1, p.greatest + 2, 2 * p.greatest, 1 << 31, 1 << 32, 1<<32 + p.least, 1<<62 + 1, greatest - p.greatest, greatest - 1, greatest} {
				if n >= 0 && (n < p.least || n > p.greatest) {
					expectWrong(t, g.line+p.with(n), 2, api.ErrBudget)
					expectWrong(t, g.line+"client 0\n\nheal\n"+p.with(n)+"\nheal\n", 5, api.ErrBudget)
				}
			}
		}
		for node := range g.nodes {
			for _, word := range []string{"split ", "crash ", "restart ", "stale "} {
				expectRight(t, g.line+word+strconv.Itoa(node))
			}
		}
	}
}

// The numbers of a group and of clients.
func TestHeads(t *testing.T) {
	for _, x := range []string{"group 1 1 6", "group 3 256 100", "group 1 1 6 unguarded", "group 3 256 100 unguarded", "group 2 20 6"} {
		expectRight(t, x)
		expectRight(t, x+"\nclient 0\nclient 9223372036854775807\nheal")
	}
	for _, x := range []string{"group 0 1 6", "group 4 1 6", "group 1 0 6", "group 1 257 6", "group 1 1 5", "group 1 1 101", "group 0 1 6 unguarded", "group 0 0 0", "group 9223372036854775807 1 6", "group 1 9223372036854775807 6", "group 1 1 9223372036854775807", "group 4294967297 1 6"} {
		expectWrong(t, x, 0, api.ErrConfig)
		expectWrong(t, x+"\nclient 1\nheal\nrun 0\n", 0, api.ErrConfig)
		expectWrong(t, x+strings.Repeat("\nclient 1", 17), 0, api.ErrConfig)
		expectWrong(t, x+"\nrun x\n", 2, api.ErrPlan)
	}
	expectRight(t, group+strings.Repeat("client 3\n", 16)+"heal")
	for _, n := range []int{17, 18, 300, 4000} {
		expectWrong(t, group+strings.Repeat("client 3\n", n), 0, api.ErrSetup)
		expectWrong(t, group+strings.Repeat("client 3\n", n)+"crash 3\n", 0, api.ErrSetup)
		expectWrong(t, group+strings.Repeat("client 3\n", n)+"crash x\n", n+2, api.ErrPlan)
	}
	expectWrong(t, group+"client 9223372036854775808\n", 2, api.ErrPlan)
	for _, n := range []int{0, 1, 255, 256, math.MaxInt32, greatest - 1, greatest} {
		expectRight(t, group+"client "+strconv.Itoa(n))
	}
}

// The setup that is answered is the head's.
func TestSetups(t *testing.T) {
	for _, x := range []struct {
		plan string
		want api.Setup
	}{
		{"group 1 20 6", setupOf(three)},
		{head, setupOf(three, 0, 5)},
		{"group 3 256 100 unguarded\nclient 9223372036854775807\n# client 1\n\nclient 0\nclient 7\nheal", setupOf(api.Config{F: 3, Room: 256, Patience: 100, Unguarded: true}, greatest, 0, 7)},
		{"group 2 1 7\n" + strings.Repeat("client 3\n", 16), setupOf(api.Config{F: 2, Room: 1, Patience: 7}, slices.Repeat([]int{3}, 16)...)},
	} {
		for _, seed := range []uint64{0, 1, math.MaxUint64} {
			s, l := compiled(t, x.plan, seed)
			if !sameSetup(s, x.want) || len(l) != 0 {
				t.Fatal(x.plan, s, l)
			}
		}
		if l, line, e := nemesis.Survey(x.plan, []uint64{3}, 1); e != api.OK || line != 0 || !slices.Equal(l, []api.Trial{{Seed: 3, Fault: -1}}) {
			t.Fatal(x.plan, l, line, e)
		}
	}
}

// goodLines: of each kind of line one or more, for three replicas.
var goodLines = []string{
	"group 1 20 6", "group 1 20 6 unguarded", "client 0", "fault 1 2 3 4", "split 0", "split 2 0", "split 0 1 2", "heal", "clock 2 9", "load 3", "run 3", "churn 50 4", "crash 1", "restart 1", "stale 1", "calm 5",
}

// laid: a text in which a line stands where its kind may; and the line's number.
func laid(line string) (string, int) {
	switch {
	case strings.HasPrefix(line, "group"):
		return line + "\n", 1
	case strings.HasPrefix(line, "client"):
		return group + line + "\nheal\n", 2
	}
	return head + "heal\n\n" + line + "\nheal\n", 6
}

func expectRightLine(t *testing.T, line string) {
	t.Helper()
	text, _ := laid(line)
	expectRight(t, text)
}

func expectNoLine(t *testing.T, line string) {
	t.Helper()
	text, number := laid(line)
	expectWrong(t, text, number, api.ErrPlan)
}

func TestTooFewAndTooManyWords(t *testing.T) {
	for _, line := range goodLines {
		expectRightLine(t, line)
		words := strings.Split(line, " ")
		for n := 1; n < len(words); n++ {
			cut := strings.Join(words[:n], " ")
			switch {
			case words[0] == "split" && n > 1 || cut == "group 1 20 6":
				expectRightLine(t, cut)
			default:
				expectNoLine(t, cut)
			}
		}
		for _, more := range []string{" 1", " 1 2", " x", " unguarded", " #", " # a remark", " 1 # a remark", " -", " heal", " 99999999999999999999"} {
			if words[0] == "split" && (more == " 1" || more == " 1 2") || line == "group 1 20 6" && more == " unguarded" {
				continue
			}
			expectNoLine(t, line+more)
		}
	}
	for _, word := range []string{"group", "client", "fault", "split", "clock", "load", "run", "churn", "crash", "restart", "stale", "calm", "heal 0", "heal 0 1", "heal x"} {
		expectNoLine(t, word)
	}
	expectRightLine(t, "heal")
}

// noNumbers: words that are none, or are not written in their one way.
var noNumbers = []string{
	"x", "-", "-1", "-0", "+1", "+0", "00", "01", "001", "1.", "1.0", "0.1", ".", "1e1", "0x1", "0b1", "0o1", "1_0", "1,0", "a", "1a", "a1", "#", "#1", "1#", "½", "１", "٣", "\t1", "1\t", "1\r", "\x001", "1\x00", "\"1\"", "--1", "heal", "unguarded",
	"9223372036854775808", "18446744073709551615", "18446744073709551616", "18446744073709551617", "99999999999999999999", "340282366920938463463374607431768211457", "09223372036854775807", strings.Repeat("9", 4000), strings.Repeat("0", 4000),
}

func TestWordsThatAreNoNumbers(t *testing.T) {
	for _, line := range goodLines {
		words := strings.Split(line, " ")
		for i := range words {
			if i == 0 || words[i] == "unguarded" {
				continue
			}
			for _, no := range noNumbers {
				changed := slices.Clone(words)
				changed[i] = no
				expectNoLine(t, strings.Join(changed, " "))
			}
		}
	}
	expectNoLine(t, "group 1 20 unguarded")
	expectNoLine(t, "group unguarded 1 20 6")
	expectNoLine(t, "group 1 20 6 unguarded unguarded")
	expectNoLine(t, "group 1 20 6 7 unguarded")
	expectNoLine(t, "group 1 20 6 unguarde")
	expectNoLine(t, "group 1 20 6 Unguarded")
	expectNoLine(t, "group 1 20 6 guarded")
	expectNoLine(t, "split 0 1 x")
	expectNoLine(t, "split "+strings.Repeat("0 ", 5000)+"x")
}

// First words that are none, those of scripts and of other layers among them.
func TestLinesOfNoKind(t *testing.T) {
	for _, line := range []string{
		"x", "Fault 0 0 0 0", "FAULT 0 0 0 0", "faults 0 0 0 0", "fau", "faul 0 0 0 0", "Heal", "heals", "hea", "Split 0", "Group 1 20 6", "groups 1 20 6", "clients 0", "Client 0", "cient 0",
		"submit 0 count", "retry 0", "deliver 0", "drop 0", "copy 0", "spoil 0 0 1", "inject 0 1 -", "tick 0", "restart 0 0.5", "query 0 0 count", "round 4", "look 0", "cells 0", "ask 0", "pool", "judge", "crash 0 cut 1",
		"0", "1", "-", "unguarded", "fault,0,0,0,0", "run=3", "run3", "run3 3", "\trun 3", "run\t3", "run 3\r", "heal\r", "heal;", "heal#", "\x00", "\xff", "é", "run", "rum 3", "rounds 3", "churned 1 1", "calmer 1", "clocks 0 1", "stall 0", "start 0", "load", "lode 1",
	} {
		expectWrong(t, head+line+"\n", 4, api.ErrPlan)
		expectWrong(t, head+"heal\n"+line, 5, api.ErrPlan)
		expectWrong(t, line+"\n"+group, 1, api.ErrPlan)
	}
}

// A fault line's sum.
func TestSums(t *testing.T) {
	for _, right := range []string{"0 0 0 0", "25 25 25 25", "100 0 0 0", "0 0 0 100", "50 50 0 0", "0 1 99 0", "97 1 1 1", "1 1 1 97", "99 0 0 1", "10 20 30 40"} {
		expectRight(t, group+"fault "+right+"\n")
	}
	for _, wrong := range []string{"25 25 25 26", "26 25 25 25", "25 26 25 25", "25 25 26 25", "100 1 0 0", "100 0 0 1", "1 0 0 100", "0 50 51 0", "100 100 100 100", "98 1 1 1", "1 1 1 98",
		"9223372036854775807 1 0 0", "9223372036854775807 9223372036854775807 2 0", "4611686018427387904 4611686018427387904 4611686018427387904 4611686018427387904", "0 9223372036854775807 9223372036854775807 102"} {
		expectWrong(t, group+"fault "+wrong+"\n", 2, api.ErrBudget)
	}
	// Each line has a sum of its own.
	expectRight(t, group+"fault 60 0 0 0\nfault 0 60 0 0\nchurn 100 1\nfault 100 0 0 0\n")
}

func TestNodesOfASplit(t *testing.T) {
	for _, g := range groups {
		all := ""
		for node := range g.nodes {
			all += " " + strconv.Itoa(node)
			expectRight(t, g.line+"split"+all)
		}
		for node := range g.nodes {
			expectWrong(t, g.line+"split"+all+" "+strconv.Itoa(node), 2, api.ErrBudget)
			expectWrong(t, g.line+"split "+strconv.Itoa(node)+" "+strconv.Itoa(node), 2, api.ErrBudget)
		}
		expectWrong(t, g.line+"split"+all+" "+strconv.Itoa(g.nodes), 2, api.ErrBudget)
		expectWrong(t, g.line+"split 0"+strings.Repeat(" 1 0", 100000), 2, api.ErrBudget)
		// Several lines may have the same node.
		expectRight(t, g.line+"split 0 1\nsplit 1 0\nsplit 2\nsplit 2\nclock 1 1\nclock 1 1\ncrash 1\ncrash 1\n")
	}
	expectRight(t, "group 3 20 6\nsplit 6 5 4 3 2 1 0\nsplit 3 1 6\n")
	expectWrong(t, "group 3 20 6\nsplit 6 5 4 3 2 1 6\n", 2, api.ErrBudget)
}

// Rounds of run and churn together.
func TestRoundsOfAPlan(t *testing.T) {
	for _, right := range []string{
		"run 2000", "churn 5 2000", "run 1999\nrun 1", "run 1\nchurn 5 1999", "churn 5 1000\nrun 1000", "churn 0 1\nchurn 0 1\nrun 1998", "run 1000\ncalm 2000\nrun 1000\ncalm 2000\ncalm 2000", "calm 2000\nrun 2000",
		strings.Repeat("run 1\n", 2000), strings.Repeat("churn 3 1\n", 2000), strings.Repeat("run 1\nchurn 100 1\n", 1000) + strings.Repeat("calm 2000\n", 2000), "load 100\nload 100\nrun 2000\nload 100",
	} {
		expectRight(t, group+right)
	}
	for _, x := range []struct {
		lines string
		line  int
	}{
		{"run 2001", 2}, {"churn 5 2001", 2}, {"run 2000\nrun 1", 3}, {"run 1\nrun 2000", 3}, {"run 1\nchurn 5 2000", 3}, {"churn 5 2000\nrun 1\nrun 1", 3}, {"churn 5 1000\nheal\nrun 1000\n\ncalm 9\nchurn 5 1\nrun 1", 7}, {"run 1000\nchurn 5 1001", 3},
		{strings.Repeat("run 1\n", 2001), 2002}, {strings.Repeat("run 1\nchurn 100 1\n", 1000) + "calm 2000\nchurn 100 1\n", 2003}, {"run 1500\nrun 1500\nrun 1500", 3}, {"run 9223372036854775807\nrun 1", 2}, {"run 1\nrun 9223372036854775807", 3},
	} {
		expectWrong(t, group+x.lines, x.line, api.ErrBudget)
	}
}
