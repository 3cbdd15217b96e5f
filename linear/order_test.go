package linear_test

import (
	"math/rand/v2"
	"slices"
	"testing"

	"amnesia/api"
)

// P18.9: Order.

func entriesOf(l []api.Call) []api.Entry {
	var seq []api.Entry
	for _, c := range l {
		seq = append(seq, entryOf(c))
	}
	return seq
}

func TestOrderOfASequence(t *testing.T) {
	l := calls(called(0, write(7, "a"), 0, 9, written(7, "a")), waits(1, read(7), 1), called(2, count, 2, 3, counted(5)))
	a, b, c := entryOf(l[0]), entryOf(l[1]), entryOf(l[2])
	expectOrder(t, l, []api.Entry{a, b, c}, 0, 1, 2)
	expectOrder(t, l, []api.Entry{c, b, a}, 2, 1, 0) // a witness or not
	expectOrder(t, l, []api.Entry{c, a}, 2, 0)       // what is not answered may be missing
	expectUnordered(t, l, a, b)
	expectUnordered(t, l, b, c)
	expectUnordered(t, l, b)
	expectUnordered(t, l)
	for _, twice := range []api.Entry{a, b, c} {
		expectUnordered(t, l, a, b, c, twice)
		expectUnordered(t, l, twice, a, b, c)
		expectUnordered(t, l, a, twice, b, c)
	}
	expectUnordered(t, l, a, c, b, b)
	expectUnordered(t, l, a, a, b) // both faults
}

func TestOrderOfNoCallsAndNoSequence(t *testing.T) {
	expectOrder(t, nil, nil)
	expectOrder(t, nil, []api.Entry{})
	expectOrder(t, nil, []api.Entry{entry(0, 1, count), entry(0, 1, count)}) // no call twice
	open := calls(waits(0, count, 0), waits(1, count, 1))
	expectOrder(t, open, nil)
	expectOrder(t, open, []api.Entry{})
	expectOrder(t, open, entriesOf(open[1:]), 1)
}

// Entries that are no calls are passed over, however often they come, and whatever they are.
func TestEntriesThatAreNoCalls(t *testing.T) {
	l := calls(numbered(3, called(1, write(7, "a"), 0, 9, written(7, "a"))), waits(3, read(7), 1))
	a, b := entryOf(l[0]), entryOf(l[1])
	for _, other := range []api.Entry{
		entry(1, 4, a.Op), entry(2, 3, a.Op), entry(3, 1, a.Op), entry(1, 3, write(7, "b")), entry(1, 3, write(8, "a")), entry(1, 3, add("a")), entry(1, 3, read(7)),
		entry(3, 1, count), {}, entry(-1, -1, api.Op{Kind: -1}), entry(1, 3, api.Op{}),
	} {
		expectOrder(t, l, []api.Entry{other, b, other, a, other, other}, 1, 0)
		expectOrder(t, l, []api.Entry{a, other}, 0)
		expectUnordered(t, l, other)
		expectUnordered(t, l, other, b)
		expectUnordered(t, l, a, other, a)
		expectUnordered(t, l, b, a, other, b)
	}
}

// someSequence: of the calls' entries, some missing, some twice, others between.
func someSequence(r *rand.Rand, l []api.Call) []api.Entry {
	var seq []api.Entry
	wrong := pick(r, 0, 0, 5, 30) // out of 100
	for _, place := range r.Perm(len(l)) {
		c := l[place]
		if c.End < 0 && r.IntN(2) == 0 || r.IntN(100) < wrong {
			continue
		}
		seq = append(seq, entryOf(c))
		if r.IntN(100) < wrong {
			seq = slices.Insert(seq, r.IntN(len(seq)), entryOf(c))
		}
		if r.IntN(5) == 0 {
			seq = append(seq, pick(r, entry(c.Client, c.Number, api.Op{Kind: api.OpRead, Slot: 999}), entry(15, 15, count)))
		}
	}
	return seq
}

func TestAnySequences(t *testing.T) {
	t.Parallel()
	met := make(map[api.Errno]int)
	for seed := range uint64(5000) {
		r := seeded(70000 + seed)
		l := someHistory(r, r.IntN(12), anyOp)
		seq := someSequence(r, l)
		want, e := modelOrder(l, seq)
		met[e]++
		if e == api.OK {
			expectOrder(t, l, seq, want...)
		} else {
			expectUnordered(t, l, seq...)
		}
	}
	expectEnough(t, met, map[api.Errno]int{api.OK: 1000, api.ErrWitness: 1000})
}

func TestAGreatSequence(t *testing.T) {
	l := reads(50000)
	var want []int
	for i := range l {
		want = append(want, len(l)-1-i)
	}
	seq := entriesOf(l)
	slices.Reverse(seq)
	expectOrder(t, l, seq, want...)
	expectUnordered(t, l, seq[1:]...)
	expectUnordered(t, l, append(seq, seq[0])...)
}
