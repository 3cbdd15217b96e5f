package history_test

import (
	"math/rand/v2"
	"reflect"
	"slices"
	"testing"

	"amnesia/api"
	"amnesia/history"
)

// P2 of DOC.md: whose memory is whose.

// roomy: a list with something in the room behind its end.
func roomy[T any](l []T, behind T) []T {
	long := append(slices.Clone(l), behind, behind)
	return long[:len(l)]
}

// whole: a list with what is in the room behind its end.
func whole[T any](l []T) []T { return l[:cap(l)] }

// handed: rows in memory of their own, each list with something in the room behind it.
func handed(rows []api.Seen) []api.Seen {
	marked := roomy(rows, api.Seen{Kind: 77, Node: -5})
	for i := range marked {
		marked[i].Log = roomy(rows[i].Log, entry(-9, -9, api.Op{Value: "behind"}))
		marked[i].Packet.Bytes = roomy(rows[i].Packet.Bytes, 0xa5)
	}
	return marked
}

// allOf: a copy of all that is in them and behind them.
func allOf(rows []api.Seen) []api.Seen {
	all := slices.Clone(whole(rows))
	for i := range all {
		all[i].Log, all[i].Packet.Bytes = slices.Clone(whole(all[i].Log)), slices.Clone(whole(all[i].Packet.Bytes))
	}
	return all
}

func overwrite(rows []api.Seen) {
	for i := range whole(rows) {
		row := &whole(rows)[i]
		for k := range whole(row.Log) {
			whole(row.Log)[k] = entry(8, 8, count)
		}
		for k := range whole(row.Packet.Bytes) {
			whole(row.Packet.Bytes)[k]++
		}
		*row = api.Seen{Kind: api.SeenAsked, Entry: entry(8, 8, count), Log: row.Log, Packet: row.Packet}
	}
}

func memoryRows(t *testing.T, r *rand.Rand) (api.Setup, []api.Seen) {
	t.Helper()
	s, rows := someRows(t, r, 1+r.IntN(60), r.IntN(2) == 0)
	s.Clients = roomy(s.Clients, api.ClientSetup{Number: 66})
	return s, handed(rows)
}

func TestWhatIsHandedInStays(t *testing.T) {
	t.Parallel()
	for seed := range uint64(200) {
		s, rows := memoryRows(t, seeded(70000+seed))
		all, clients := allOf(rows), slices.Clone(whole(s.Clients))
		judgedOf(t, s, rows)
		history.Verify(s, rows)
		history.Premises(s.Config, rows)
		if !reflect.DeepEqual(allOf(rows), all) || !slices.Equal(whole(s.Clients), clients) {
			t.Fatal("something was changed:", seed)
		}
	}
}

// Neither rows nor setups are kept: what is done to them later is not seen in what was answered.
func TestAnswersAreNewMemory(t *testing.T) {
	t.Parallel()
	for seed := range uint64(200) {
		s, rows := memoryRows(t, seeded(80000+seed))
		j, wrong := judgedOf(t, s, rows), history.Verify(s, rows)
		again := judgedOf(t, s, rows)
		sequence, text := slices.Clone(j.Sequence), ""
		if wrong != nil {
			text = wrong.Error()
		}
		all := allOf(rows)
		for i := range whole(again.Sequence) { // an answer that is written over is nobody else's
			whole(again.Sequence)[i] = entry(-7, -7, api.Op{Value: "mine"})
		}
		third := judgedOf(t, s, rows)
		if !slices.Equal(j.Sequence, sequence) || !slices.Equal(third.Sequence, sequence) || third.Fault != j.Fault || !reflect.DeepEqual(allOf(rows), all) {
			t.Fatal("answers share memory:", seed)
		}
		overwrite(rows)
		for i := range whole(s.Clients) {
			whole(s.Clients)[i].Number = -1
		}
		if !slices.Equal(j.Sequence, sequence) || wrong != nil && wrong.Error() != text {
			t.Fatal("what was answered has changed:", seed)
		}
	}
}

// What a call answers hangs on its arguments alone: the same each time, and with nil for empty lists.
func TestTheSameEachTime(t *testing.T) {
	t.Parallel()
	for seed := range uint64(100) {
		s, rows := someRows(t, seeded(90000+seed), 60, seed%2 == 0)
		want := judgedOf(t, s, rows)
		premises, _ := history.Premises(s.Config, rows)
		others := slices.Clone(rows)
		for i := range others {
			if len(others[i].Log) == 0 {
				others[i].Log = []api.Entry{}
			}
			if len(others[i].Packet.Bytes) == 0 {
				others[i].Packet.Bytes = []byte{}
			}
		}
		for _, l := range [][]api.Seen{rows, others, rows} {
			if j := judgedOf(t, s, l); j.Fault != want.Fault || !slices.Equal(j.Sequence, want.Sequence) {
				t.Fatalf("%+v, want %+v", j, want)
			}
			expectPremises(t, s.Config, l, premises)
		}
	}
}
