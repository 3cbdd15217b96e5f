package normal_test

import (
	"testing"

	"amnesia/api"
)

// P10.12: Query. aPrimary has carried out two entries, aBackup one.

func toldBy(s api.State, client, number int, r api.Result) api.Send {
	return from(s, 7+client, api.Msg{Kind: api.KindTold, View: s.View, Commit: s.Commit, Entry: api.Entry{Client: client, Number: number}, Result: r})
}

func TestQueryByPlace(t *testing.T) {
	for name, s := range map[string]api.State{"primary": aPrimary(), "backup": aBackup()} {
		for place := range 7 {
			m := query(9, 3, place, read(7))
			if place <= s.Commit {
				expect(t, name, five, s, m, s, toldBy(s, 9, 3, api.Result{Code: api.ResFound, Slot: 7, Value: "a"}))
			} else {
				expectNothing(t, name+", which has carried out less", five, s, m)
			}
		}
	}
}

// What is told is what the ledger has behind Commit, and not behind the log's end; logOf writes at its places 1 and 3.
func TestQueryOfWhatIsCarriedOut(t *testing.T) {
	for commit, want := range [][3]api.Result{ // read 7, read 8, count
		{{Code: api.ResNone, Slot: 7}, {Code: api.ResNone, Slot: 8}, {Code: api.ResCount, Slot: 0}},
		{{Code: api.ResFound, Slot: 7, Value: "a"}, {Code: api.ResNone, Slot: 8}, {Code: api.ResCount, Slot: 1}},
		{{Code: api.ResFound, Slot: 7, Value: "a"}, {Code: api.ResNone, Slot: 8}, {Code: api.ResCount, Slot: 1}},
		{{Code: api.ResFound, Slot: 7, Value: "a"}, {Code: api.ResFound, Slot: 8, Value: "c"}, {Code: api.ResCount, Slot: 2}},
	} {
		for _, s := range []api.State{aBackup(), changed(aPrimary(), func(s *api.State) { s.Acks = nil })} {
			s.Commit = commit
			for i, op := range []api.Op{read(7), read(8), count} {
				expect(t, "told", five, s, query(0, 1, 0, op), s, toldBy(s, 0, 1, want[i]))
				expect(t, "told", five, s, query(15, 9, commit, op), s, toldBy(s, 15, 9, want[i]))
			}
		}
	}
	s := aBackup()
	expect(t, "the last slot", five, s, query(3, 1, 0, read(1023)), s, toldBy(s, 3, 1, api.Result{Code: api.ResNone, Slot: 1023}))
	s.Log[0].Op = write(1023, "")
	expect(t, "an empty value", five, s, query(3, 1, 0, read(1023)), s, toldBy(s, 3, 1, api.Result{Code: api.ResFound, Slot: 1023}))
}

// A query's number has nothing to do with the numbers of requests, and is told again and again.
func TestQueryOfAnyNumber(t *testing.T) {
	s := aPrimary()
	for _, number := range []int{1, 2, 5, 6, 1<<63 - 1} {
		for range 2 {
			expect(t, "number", five, s, query(4, number, 0, count), s, toldBy(s, 4, number, api.Result{Code: api.ResCount, Slot: 1}))
		}
	}
	c := roomOf(five, 5)
	expect(t, "a full log", c, s, query(4, 9, 2, count), s, toldBy(s, 4, 9, api.Result{Code: api.ResCount, Slot: 1}))
}

func TestQueryAtOneThatIsNotNormal(t *testing.T) {
	for name, state := range everyState() {
		if name == "primary" || name == "backup" {
			continue
		}
		for place := range 2 {
			expectNothing(t, name, five, state(), query(9, 3, place, read(7)))
		}
	}
}

// A full ledger counts all its slots.
func TestQueryOfAFullLog(t *testing.T) {
	s := first(t, seven, 3)
	for i := range 256 {
		s.Log = append(s.Log, api.Entry{Client: 1, Number: i + 1, Op: write(4*i, "v")})
	}
	s.Commit = 256
	expect(t, "count", seven, s, query(2, 1, 256, count), s, toldBy(s, 2, 1, api.Result{Code: api.ResCount, Slot: 256}))
	expect(t, "read", seven, s, query(2, 1, 256, read(1020)), s, toldBy(s, 2, 1, api.Result{Code: api.ResFound, Slot: 1020, Value: "v"}))
	expect(t, "read", seven, s, query(2, 1, 0, read(1021)), s, toldBy(s, 2, 1, api.Result{Code: api.ResNone, Slot: 1021}))
}
