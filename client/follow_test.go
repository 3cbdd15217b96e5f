package client_test

import (
	"math/rand/v2"
	"slices"
	"testing"

	"amnesia/api"
	"amnesia/client"
)

func mustTable(t *testing.T, log []api.Entry, commit int) []api.Row {
	t.Helper()
	table, e := client.Table(log, commit)
	if e != api.OK {
		t.Fatalf("Table(%v, %d): %d", log, commit, e)
	}
	return table
}

func mustBetween(t *testing.T, log []api.Entry, from, to int) []api.Row {
	t.Helper()
	rows, e := client.Between(log, from, to)
	if e != api.OK {
		t.Fatalf("Between(%v, %d, %d): %d", log, from, to, e)
	}
	return rows
}

// P5.2: once for each number.

func TestOnceForEachNumber(t *testing.T) {
	r := rand.New(rand.NewPCG(5, 4))
	for range 300 {
		log := someLog(r, r.IntN(60))
		rows := mustBetween(t, log, 0, len(log))
		if len(rows) != len(log) {
			t.Fatalf("%d rows of %d entries", len(rows), len(log))
		}
		times := map[[2]int]int{}
		var last [16]*api.Row
		for i, row := range rows {
			request := [2]int{row.Client, row.Number}
			if times[request]++; times[request] > 1 {
				t.Fatalf("twice: %v", request)
			}
			last[row.Client] = &rows[i]
		}
		var want []api.Row
		for _, row := range last {
			if row != nil {
				want = append(want, *row)
			}
		}
		expectTable(t, log, len(log), want...)
	}
}

// All lists of three entries with two clients and three numbers: those that may be have no request twice.
func TestOnceOfAllShortLists(t *testing.T) {
	var entries []api.Entry
	for c := range 2 {
		for n := 1; n <= 3; n++ {
			entries = append(entries, entry(c, n, add("x")))
		}
	}
	taken := 0
	for _, a := range entries {
		for _, b := range entries {
			for _, c := range entries {
				log := []api.Entry{a, b, c}
				rising := (a.Client != b.Client || a.Number < b.Number) && (a.Client != c.Client || a.Number < c.Number) && (b.Client != c.Client || b.Number < c.Number)
				if !rising {
					failLog(t, log, api.ErrTwice)
					continue
				}
				taken++
				expectBetween(t, log, 0, 3, done(a.Client, a.Number, 1, res(api.ResWritten, 0, "x")), done(b.Client, b.Number, 2, res(api.ResWritten, 1, "x")), done(c.Client, c.Number, 3, res(api.ResWritten, 2, "x")))
			}
		}
	}
	if taken != 56 { // of each client: all three its own, or two its own (3 pairs) and one the other's (3 numbers, 3 places)
		t.Errorf("%d lists may be", taken)
	}
}

// P5.3: a result stays.

func TestResultStays(t *testing.T) {
	r := rand.New(rand.NewPCG(5, 5))
	for range 150 {
		log := someLog(r, 1+r.IntN(40))
		short := log[:1+r.IntN(len(log))]
		commit := r.IntN(len(short) + 1)
		for _, row := range mustTable(t, short, commit) {
			if !row.Done {
				continue
			}
			for more := commit; more <= len(short); more++ {
				expectAsk(t, short, more, row.Client, row.Number, api.VerdictDone, row.Result)
				expectRow(t, short, more, row)
			}
			if hasLater(log[len(short):], row.Client) {
				continue
			}
			for more := commit; more <= len(log); more++ {
				expectAsk(t, log, more, row.Client, row.Number, api.VerdictDone, row.Result)
				expectRow(t, log, more, row)
			}
		}
	}
}

func hasLater(behind []api.Entry, c int) bool {
	return slices.ContainsFunc(behind, func(e api.Entry) bool { return e.Client == c })
}

func expectRow(t *testing.T, log []api.Entry, commit int, row api.Row) {
	t.Helper()
	if table := mustTable(t, log, commit); !slices.Contains(table, row) {
		t.Fatalf("Table(%v, %d): %v has no %v", log, commit, table, row)
	}
}

// Written out: entries behind that would turn the result, were it asked anew.
func TestResultStaysExample(t *testing.T) {
	log := []api.Entry{entry(0, 1, read(3)), entry(1, 1, count()), entry(2, 1, write(3, "a")), entry(3, 1, write(3, "b")), entry(4, 1, add("c"))}
	for n := 2; n <= 5; n++ {
		for commit := 2; commit <= n; commit++ {
			expectAsk(t, log[:n], commit, 0, 1, api.VerdictDone, res(api.ResNone, 3, ""))
			expectAsk(t, log[:n], commit, 1, 1, api.VerdictDone, res(api.ResCount, 0, ""))
			expectRow(t, log[:n], commit, done(0, 1, 1, res(api.ResNone, 3, "")))
			expectRow(t, log[:n], commit, done(1, 1, 2, res(api.ResCount, 0, "")))
		}
	}
}

// P5.4: whose memory is whose.

// A log with room behind its end, and something in that room.
func roomyLog() []api.Entry {
	return append(example(), entry(9, 9, write(9, "behind")), entry(10, 10, add("behind")))
}

func TestGivenLogStays(t *testing.T) {
	given := roomyLog()
	log := given[:3]
	for n := -1; n <= 4; n++ {
		client.Table(log, n)
		client.Ask(log, n, 1, 2)
		for to := -1; to <= 4; to++ {
			client.Between(log, n, to)
		}
		if !slices.Equal(given, roomyLog()) {
			t.Fatalf("what was given is changed: %v", given)
		}
	}
}

// spoil writes over all that a list reaches, its spare room too.
func spoil(rows []api.Row) {
	all := rows[:cap(rows)]
	for i := range all {
		all[i] = done(99, 99, 99, res(99, 99, "spoilt"))
	}
}

func TestAnswersAreNewMemory(t *testing.T) {
	given := roomyLog()
	log := given[:3]
	wantTable := []api.Row{pending(1, 2, 3), done(2, 5, 2, res(api.ResTaken, 7, "a"))}
	wantRows := []api.Row{done(2, 5, 2, res(api.ResTaken, 7, "a")), done(1, 2, 3, res(api.ResFound, 7, "a"))}
	table, rows := mustTable(t, log, 2), mustBetween(t, log, 1, 3)
	spoil(mustTable(t, log, 2))
	spoil(mustBetween(t, log, 1, 3))
	spoil(mustBetween(t, log, 3, 3))
	spoil(mustBetween(t, log, 0, 0))
	spoil(mustTable(t, nil, 0))
	if !slices.Equal(table, wantTable) || !slices.Equal(rows, wantRows) {
		t.Fatalf("other answers were spoilt: %v, %v", table, rows)
	}
	expectTable(t, log, 2, wantTable...)
	expectBetween(t, log, 1, 3, wantRows...)
	if !slices.Equal(given, roomyLog()) {
		t.Fatalf("what was given is spoilt: %v", given)
	}
}

// Nothing is kept: what was answered stays when the log turns, and the next answer is the new log's.
func TestNothingIsKept(t *testing.T) {
	log := example()
	table, rows := mustTable(t, log, 3), mustBetween(t, log, 0, 1)
	log[0] = entry(3, 4, write(7, "later"))
	if want := []api.Row{done(1, 2, 3, res(api.ResFound, 7, "a")), done(2, 5, 2, res(api.ResTaken, 7, "a"))}; !slices.Equal(table, want) {
		t.Errorf("Table's answer has turned: %v", table)
	}
	if want := []api.Row{done(1, 1, 1, res(api.ResWritten, 7, "a"))}; !slices.Equal(rows, want) {
		t.Errorf("Between's answer has turned: %v", rows)
	}
	expectTable(t, log, 3, done(1, 2, 3, res(api.ResFound, 7, "later")), done(2, 5, 2, res(api.ResTaken, 7, "later")), done(3, 4, 1, res(api.ResWritten, 7, "later")))
	expectAsk(t, log, 3, 1, 1, api.VerdictOld, res(0, 0, ""))
	expectBetween(t, log, 0, 1, done(3, 4, 1, res(api.ResWritten, 7, "later")))
}

// Asked side by side of one log: none writes to what it was given.
func TestSideBySide(t *testing.T) {
	log := longLog(256)
	ended := make(chan api.Errno)
	for i := range 8 {
		go func() {
			_, e := client.Table(log, 32*i)
			_, _, f := client.Ask(log, 32*i, i, 1)
			_, g := client.Between(log, i, 32*i+8)
			ended <- e + f + g
		}()
	}
	for range 8 {
		if e := <-ended; e != api.OK {
			t.Errorf("side by side: %d", e)
		}
	}
}
