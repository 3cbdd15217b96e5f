package replica_test

import (
	"slices"
	"testing"

	"amnesia/api"
	"amnesia/replica"
)

// P13.5: Cells and Rows are what the log and the commit number make, also where what was carried out is taken back.

func expectCells(t *testing.T, what string, r *replica.Replica, want ...api.Cell) {
	t.Helper()
	if got := r.Cells(); !slices.Equal(got, want) {
		t.Fatalf("%s: %+v, want %+v", what, got, want)
	}
}

func expectRows(t *testing.T, what string, r *replica.Replica, want ...api.Row) {
	t.Helper()
	if got := r.Rows(); !slices.Equal(got, want) {
		t.Fatalf("%s: %+v, want %+v", what, got, want)
	}
}

// Entries of logOf that are carried out, as rows: clients 0, 5, 10, 15, 4.
var (
	row0  = api.Row{Client: 0, Number: 1, Place: 1, Done: true, Result: api.Result{Code: api.ResWritten, Slot: 7, Value: "a"}}
	row5  = api.Row{Client: 5, Number: 2, Place: 2, Done: true, Result: api.Result{Code: api.ResTaken, Slot: 7, Value: "a"}}
	row10 = api.Row{Client: 10, Number: 3, Place: 3, Done: true, Result: api.Result{Code: api.ResWritten, Slot: 8, Value: "c"}}
	row15 = api.Row{Client: 15, Number: 4, Place: 4, Done: true, Result: api.Result{Code: api.ResCount, Slot: 2}}
	row4  = api.Row{Client: 4, Number: 5, Place: 5, Done: true, Result: api.Result{Code: api.ResFound, Slot: 7, Value: "a"}}
)

func pending(row api.Row) api.Row {
	row.Done, row.Result = false, api.Result{}
	return row
}

var cell7, cell8 = api.Cell{Slot: 7, Value: "a"}, api.Cell{Slot: 8, Value: "c"}

// A backup of five carries out more and more, as the primary tells it.
func TestCellsAndRowsGoAlong(t *testing.T) {
	r := with(t, five, changed(aBackup(), func(s *api.State) { s.Log, s.Commit = logOf(5), 0 }))
	expectCells(t, "none", r)
	expectRows(t, "none", r, pending(row0), pending(row4), pending(row5), pending(row10), pending(row15))
	tell := func(commit int) {
		t.Helper()
		handle(t, r, five, changedMsg(msgOf(api.KindCommit, 1), func(m *api.Msg) { m.Commit = commit }))
	}
	tell(1)
	expectCells(t, "one", r, cell7)
	expectRows(t, "one", r, row0, pending(row4), pending(row5), pending(row10), pending(row15))
	tell(3)
	expectCells(t, "three", r, cell7, cell8)
	expectRows(t, "three", r, row0, pending(row4), row5, row10, pending(row15))
	tell(2) // what is carried out stays so
	expectCells(t, "three still", r, cell7, cell8)
	tell(5)
	expectCells(t, "all", r, cell7, cell8)
	expectRows(t, "all", r, row0, row4, row5, row10, row15)
	tick(t, r)
	expectRows(t, "behind a tick", r, row0, row4, row5, row10, row15)
}

// Of one client with several entries the last is told, carried out or not.
func TestRowsOfOneClient(t *testing.T) {
	log := []api.Entry{{Client: 3, Number: 2, Op: write(1, "x")}, {Client: 3, Number: 1<<63 - 1, Op: read(1)}}
	s := changed(aBackup(), func(s *api.State) { s.Log, s.Commit = log, 1 })
	r := with(t, five, s)
	expectRows(t, "pending", r, api.Row{Client: 3, Number: 1<<63 - 1, Place: 2})
	expectCells(t, "pending", r, api.Cell{Slot: 1, Value: "x"})
	handle(t, r, five, changedMsg(msgOf(api.KindCommit, 1), func(m *api.Msg) { m.Commit = 2 }))
	expectRows(t, "done", r, api.Row{Client: 3, Number: 1<<63 - 1, Place: 2, Done: true, Result: api.Result{Code: api.ResFound, Slot: 1, Value: "x"}})
}

// A log that is shorter than what was carried out (no run that keeps the premises has that): what was carried out beyond it is gone, and the results are those of the new log.
func TestCellsAndRowsAreTakenBack(t *testing.T) {
	carriedOut := changed(aChangingBackup(), func(s *api.State) { s.Log, s.Commit = logOf(5), 5 })
	for _, k := range []api.Kind{api.KindNewState, api.KindStartView} {
		by := func(commit int, log []api.Entry) api.Msg {
			return changedMsg(msgOf(k, 1), func(m *api.Msg) { m.Commit, m.Log = commit, log })
		}
		r := with(t, five, carriedOut)
		expectCells(t, "ahead", r, cell7, cell8)
		handle(t, r, five, by(0, logOf(1)))
		expectCells(t, "a beginning", r, cell7)
		expectRows(t, "a beginning", r, row0)

		r = with(t, five, carriedOut)
		handle(t, r, five, by(1, other(2)))
		expectCells(t, "another one", r, api.Cell{Slot: 0, Value: "other"}, api.Cell{Slot: 1, Value: "other"})
		expectRows(t, "another one", r, api.Row{Client: 15, Number: 101, Place: 2, Done: true, Result: api.Result{Code: api.ResWritten, Slot: 1, Value: "other"}})

		r = with(t, five, carriedOut)
		handle(t, r, five, by(0, nil))
		expectCells(t, "none", r)
		expectRows(t, "none", r)
		if s := r.State(); s.Commit != 0 || len(s.Log) > 0 || s.Status != api.StatusNormal {
			t.Error(s)
		}
		// It goes on from there.
		handle(t, r, five, changedMsg(msgOf(api.KindPrepare, 1), func(m *api.Msg) { m.Place, m.Commit = 1, 1 }))
		expectCells(t, "anew", r, api.Cell{Slot: 3, Value: "n"})
		expectRows(t, "anew", r, api.Row{Client: 9, Number: 3, Place: 1, Done: true, Result: api.Result{Code: api.ResWritten, Slot: 3, Value: "n"}})
	}
	r := with(t, five, changed(aNextPrimary(), func(s *api.State) { s.Log, s.Commit = logOf(5), 5 }))
	handle(t, r, five, changedMsg(msgOf(api.KindDoViewChange, 0), func(m *api.Msg) { m.Log = logOf(1); m.Commit = 1 }))
	if s := r.State(); s.Status != api.StatusNormal || s.Commit != 2 { // the other ballot has two entries
		t.Fatal(s)
	}
	expectCells(t, "leads", r, cell7)
	expectRows(t, "leads", r, row0, row5)
}

// The greatest log: with as many entries and bytes as may be.
func TestCellsAndRowsOfAFullLog(t *testing.T) {
	s := api.State{Self: 1, Status: api.StatusNormal, Vector: make(api.Vector, 7)}
	value := string(make([]byte, api.MaxValue))
	for i := range api.MaxLog {
		s.Log = append(s.Log, api.Entry{Client: i % 16, Number: 1<<63 - 1 - api.MaxLog + i, Op: write(4*i, value)})
	}
	for _, commit := range []int{0, 1, 255, 256} {
		s.Commit = commit
		r := with(t, seven, s)
		expectLooks(t, "full", r, s)
		if len(r.Cells()) != commit || len(r.Rows()) != 16 {
			t.Error(commit, len(r.Cells()), len(r.Rows()))
		}
	}
	// It is taken over whole, and given whole.
	r := first(t, seven, 3)
	handle(t, r, seven, api.Msg{Kind: api.KindStartView, Node: 1, View: 1, Commit: 256, Log: s.Log, Vector: make(api.Vector, 7)})
	want := api.State{Self: 3, Status: api.StatusNormal, View: 1, Last: 1, Log: s.Log, Commit: 256, Vector: make(api.Vector, 7)}
	expectLooks(t, "taken over", r, want)
	l := handle(t, r, seven, api.Msg{Kind: api.KindGetState, Node: 2, View: 1, Vector: make(api.Vector, 7)})
	if !samePackets(l, packets(t, seven, 3, from(want, 2, api.Msg{Kind: api.KindNewState, View: 1, Commit: 256, Log: s.Log}))) {
		t.Error("it does not give its log")
	}
}
