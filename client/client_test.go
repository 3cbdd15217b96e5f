package client_test

import (
	"math/rand/v2"
	"slices"
	"strings"
	"testing"

	"amnesia/api"
	"amnesia/client"
)

// P5.1: Table.

// Example 1.
func TestTableExample(t *testing.T) {
	expectTable(t, example(), 2, pending(1, 2, 3), done(2, 5, 2, res(api.ResTaken, 7, "a")))
}

func TestTableAtEachCommit(t *testing.T) {
	taken, found := res(api.ResTaken, 7, "a"), res(api.ResFound, 7, "a")
	expectTable(t, example(), 0, pending(1, 2, 3), pending(2, 5, 2))
	expectTable(t, example(), 1, pending(1, 2, 3), pending(2, 5, 2)) // client 1's first is done, but not its last
	expectTable(t, example(), 3, done(1, 2, 3, found), done(2, 5, 2, taken))
	expectTable(t, example()[:1], 1, done(1, 1, 1, res(api.ResWritten, 7, "a")))
}

func TestTableOfNone(t *testing.T) {
	expectTable(t, nil, 0)
	expectTable(t, []api.Entry{}, 0)
}

// Each code that a ledger answers.
func TestTableResults(t *testing.T) {
	log := []api.Entry{
		entry(9, 1, read(1023)), entry(8, 1, write(1023, "z")), entry(7, 1, add("x")), entry(6, 1, read(1023)),
		entry(5, 1, write(1023, "")), entry(4, 1, count()), entry(3, 1, write(0, "")), entry(2, 1, read(0)), entry(1, 1, count()),
	}
	expectTable(t, log, 9,
		done(1, 1, 9, res(api.ResCount, 2, "")), done(2, 1, 8, res(api.ResFound, 0, "")), done(3, 1, 7, res(api.ResWritten, 0, "")),
		done(4, 1, 6, res(api.ResCount, 1, "")), done(5, 1, 5, res(api.ResTaken, 1023, "z")), done(6, 1, 4, res(api.ResFound, 1023, "z")),
		done(7, 1, 3, res(api.ResFull, 0, "")), done(8, 1, 2, res(api.ResWritten, 1023, "z")), done(9, 1, 1, res(api.ResNone, 1023, "")))
}

// All clients, met in falling order, are told rising.
func TestTableRises(t *testing.T) {
	var log []api.Entry
	var want []api.Row
	for c := 15; c >= 0; c-- {
		log = append(log, entry(c, 100-c, add("x")))
		want = append([]api.Row{done(c, 100-c, 16-c, res(api.ResWritten, 15-c, "x"))}, want...)
	}
	for range 20 { // whatever order a map has
		expectTable(t, log, 16, want...)
	}
}

func TestTableOfALongLog(t *testing.T) {
	log := longLog(256)
	var want []api.Row
	for c := range 16 {
		i := 240 + c
		value := strings.Repeat(string(rune('a'+i%26)), 64)
		if i < 250 {
			want = append(want, done(c, i+1, i+1, res(api.ResWritten, i, value)))
		} else {
			want = append(want, pending(c, i+1, i+1))
		}
	}
	expectTable(t, log, 250, want...)
}

// P5.1: Ask.

// Example 2.
func TestAskExample(t *testing.T) {
	none, found := res(0, 0, ""), res(api.ResFound, 7, "a")
	expectAsk(t, example(), 3, 1, 2, api.VerdictDone, found)
	expectAsk(t, example(), 2, 1, 2, api.VerdictPending, none)
	expectAsk(t, example(), 3, 1, 1, api.VerdictOld, none)
	expectAsk(t, example(), 3, 1, 9, api.VerdictFresh, none)
	expectAsk(t, example(), 3, 4, 1, api.VerdictFresh, none)
}

func TestAskAtEachCommit(t *testing.T) {
	none, taken := res(0, 0, ""), res(api.ResTaken, 7, "a")
	for commit := range 4 {
		expectAsk(t, example(), commit, 1, 1, api.VerdictOld, none) // carried out or not
		expectAsk(t, example(), commit, 1, 3, api.VerdictFresh, none)
		expectAsk(t, example(), commit, 2, 4, api.VerdictOld, none) // in the log or not
		expectAsk(t, example(), commit, 2, 6, api.VerdictFresh, none)
		if commit < 2 {
			expectAsk(t, example(), commit, 2, 5, api.VerdictPending, none)
		} else {
			expectAsk(t, example(), commit, 2, 5, api.VerdictDone, taken)
		}
	}
}

func TestAskOfNone(t *testing.T) {
	for c := range 16 {
		for _, n := range []int{1, 2, api.MaxNumber} {
			expectAsk(t, nil, 0, c, n, api.VerdictFresh, res(0, 0, ""))
			expectAsk(t, []api.Entry{}, 0, c, n, api.VerdictFresh, res(0, 0, ""))
		}
	}
}

func TestAskOfTheGreatestNumber(t *testing.T) {
	log := []api.Entry{entry(0, api.MaxNumber-1, add("x")), entry(15, api.MaxNumber, add("y"))}
	none := res(0, 0, "")
	expectAsk(t, log, 2, 15, api.MaxNumber, api.VerdictDone, res(api.ResWritten, 1, "y"))
	expectAsk(t, log, 1, 15, api.MaxNumber, api.VerdictPending, none)
	expectAsk(t, log, 2, 15, api.MaxNumber-1, api.VerdictOld, none)
	expectAsk(t, log, 2, 15, 1, api.VerdictOld, none)
	expectAsk(t, log, 2, 0, api.MaxNumber-1, api.VerdictDone, res(api.ResWritten, 0, "x"))
	expectAsk(t, log, 2, 0, api.MaxNumber, api.VerdictFresh, none)
}

// P5.1: Between.

// Example 3.
func TestBetweenExample(t *testing.T) {
	expectBetween(t, example(), 1, 3, done(2, 5, 2, res(api.ResTaken, 7, "a")), done(1, 2, 3, res(api.ResFound, 7, "a")))
}

func TestBetweenAll(t *testing.T) {
	all := []api.Row{done(1, 1, 1, res(api.ResWritten, 7, "a")), done(2, 5, 2, res(api.ResTaken, 7, "a")), done(1, 2, 3, res(api.ResFound, 7, "a"))}
	for to := range 4 {
		for from := range to + 1 {
			expectBetween(t, example(), from, to, all[from:to]...)
		}
	}
}

func TestBetweenOfNone(t *testing.T) {
	expectBetween(t, nil, 0, 0)
	expectBetween(t, []api.Entry{}, 0, 0)
}

func TestBetweenOfALongLog(t *testing.T) {
	log := longLog(256)
	var all []api.Row
	for i := range 256 {
		all = append(all, done(i%16, i+1, i+1, res(api.ResWritten, i, strings.Repeat(string(rune('a'+i%26)), 64))))
	}
	expectBetween(t, log, 0, 256, all...)
	expectBetween(t, log, 255, 256, all[255])
	expectBetween(t, log, 100, 200, all[100:200]...)
	expectBetween(t, log, 0, 1, all[0])
}

// All three against what the chapter says, over many logs.
func TestAsTheChapterSays(t *testing.T) {
	r := rand.New(rand.NewPCG(5, 2))
	met := map[api.Verdict]int{}
	for range 300 {
		log := someLog(r, r.IntN(30))
		results := play(log)
		for commit := range len(log) + 1 {
			table := wantTable(log, results, commit)
			expectTable(t, log, commit, table...)
			for c := range 16 {
				number := 1 + r.IntN(40)
				if i := slices.IndexFunc(table, func(row api.Row) bool { return row.Client == c }); i >= 0 && r.IntN(3) > 0 {
					number = max(table[i].Number-r.IntN(2), 1)
				}
				v, want := wantVerdict(table, c, number)
				met[v]++
				expectAsk(t, log, commit, c, number, v, want)
			}
			from := r.IntN(commit + 1)
			var rows []api.Row
			for place := from + 1; place <= commit; place++ {
				rows = append(rows, done(log[place-1].Client, log[place-1].Number, place, results[place-1]))
			}
			expectBetween(t, log, from, commit, rows...)
		}
	}
	for v := api.VerdictFresh; v <= api.VerdictOld; v++ {
		if met[v] < 100 {
			t.Errorf("the verdict %d was met %d times", v, met[v])
		}
	}
}

// Every number that a log has, and those beside it, of a client and of one without entries.
func TestAskAllNumbers(t *testing.T) {
	log := []api.Entry{entry(3, 2, add("x")), entry(3, 4, add("y")), entry(3, 7, add("z"))}
	for commit := range 4 {
		for n := 1; n <= 10; n++ {
			want, result := api.VerdictFresh, res(0, 0, "")
			switch {
			case n < 7:
				want = api.VerdictOld
			case n == 7 && commit == 3:
				want, result = api.VerdictDone, res(api.ResWritten, 2, "z")
			case n == 7:
				want = api.VerdictPending
			}
			expectAsk(t, log, commit, 3, n, want, result)
			expectAsk(t, log, commit, 2, n, api.VerdictFresh, res(0, 0, ""))
		}
	}
}

// What Ask says is what Table says.
func TestAskAndTable(t *testing.T) {
	log := someLog(rand.New(rand.NewPCG(5, 3)), 100)
	for commit := range len(log) + 1 {
		table, e := client.Table(log, commit)
		if e != api.OK {
			t.Fatalf("Table: %d", e)
		}
		for _, row := range table {
			want := api.VerdictPending
			if row.Done {
				want = api.VerdictDone
			}
			expectAsk(t, log, commit, row.Client, row.Number, want, row.Result)
		}
	}
}
