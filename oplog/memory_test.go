package oplog_test

import (
	"math"
	"math/rand/v2"
	"slices"
	"testing"

	"amnesia/api"
	"amnesia/oplog"
)

// P2: whose memory is whose.

// A list with room behind its end, and something in that room.
func roomyLog() []api.Entry {
	return list(w(0, 1), entry(1, 1, add("b")), entry(0, 2, read(1)), entry(9, 9, write(9, "behind")), entry(10, 10, add("behind")))
}

func roomyTail() []api.Entry {
	return list(entry(2, 5, write(7, "t")), entry(2, 6, count()), entry(11, 11, add("behind")))
}

// spoil writes over all that a list reaches, its spare room too.
func spoil(l []api.Entry) {
	all := l[:cap(l)]
	for i := range all {
		all[i] = entry(99, 99, write(99, "spoilt"))
	}
}

func TestGivenListsStay(t *testing.T) {
	given, more := roomyLog(), roomyTail()
	l, tail := given[:3], more[:2]
	for n := -1; n <= 5; n++ {
		for room := range 8 {
			oplog.Check(l, room)
			oplog.Append(l, room, w(3, 3))
			oplog.Append(l, room, w(0, 1))
			oplog.Splice(l, room, n, tail)
			oplog.Splice(l, room, n, nil)
			oplog.Splice(tail, room, n, l)
		}
		oplog.Cut(l, n)
		oplog.Tail(l, n)
		oplog.Common(l, tail)
		oplog.Begins(l, tail)
		oplog.Agree(l, tail, n)
		oplog.Find(l, 0, n)
		oplog.Last(l, n)
		oplog.Replay(l, n)
		gather(oplog.Each(l, n))
		if !slices.Equal(given, roomyLog()) || !slices.Equal(more, roomyTail()) {
			t.Fatalf("what was given is changed: %v, %v", given, more)
		}
	}
}

// All lists of entries that calls of these lists answer.
func answers(l, tail []api.Entry) [][]api.Entry {
	var all [][]api.Entry
	keep := func(answer []api.Entry, e api.Errno) {
		if e == api.OK {
			all = append(all, answer)
		}
	}
	for n := -1; n <= 5; n++ {
		keep(oplog.Cut(l, n))
		keep(oplog.Tail(l, n))
		keep(oplog.Splice(l, 9, n, tail))
		keep(oplog.Splice(l, 9, n, nil))
		keep(oplog.Splice(nil, 9, n, tail))
		keep(oplog.Splice(l, 9, n, l[min(max(n-1, 0), len(l)):])) // a piece of the list itself
		keep(oplog.Append(l, 9, w(3, n)))
	}
	keep(oplog.Append(nil, 1, w(3, 3)))
	return all
}

// Each answer is spoilt with its spare room, and its caller appends to it: neither what was given nor another answer knows of it.
func TestAnswersAreNewMemory(t *testing.T) {
	given, more := roomyLog(), roomyTail()
	want := answers(roomyLog()[:3], roomyTail()[:2])
	got := answers(given[:3], more[:2])
	if len(got) != len(want) || len(got) < 20 {
		t.Fatalf("%d answers, want %d", len(got), len(want))
	}
	for i, answer := range got {
		if !slices.Equal(answer, want[i]) {
			t.Fatalf("answer %d: %v, want %v", i, answer, want[i])
		}
		spoil(append(answer, w(8, 8)))
		spoil(answer)
	}
	if !slices.Equal(given, roomyLog()) || !slices.Equal(more, roomyTail()) {
		t.Fatalf("what was given is spoilt: %v, %v", given, more)
	}
}

// Nothing is kept: what was answered stays when what was given turns.
func TestNothingIsKept(t *testing.T) {
	given, more := roomyLog(), roomyTail()
	want := answers(roomyLog()[:3], roomyTail()[:2])
	got := answers(given[:3], more[:2])
	spoil(given)
	spoil(more)
	for i, answer := range got {
		if !slices.Equal(answer, want[i]) {
			t.Fatalf("answer %d has turned: %v, want %v", i, answer, want[i])
		}
	}
}

func TestReplayMemory(t *testing.T) {
	given := roomyLog()
	cells, results, _ := oplog.Replay(given[:3], 3)
	otherCells, otherResults, _ := oplog.Replay(given[:3], 3)
	for i := range otherCells[:cap(otherCells)] {
		otherCells[:cap(otherCells)][i] = cell(99, "spoilt")
	}
	for i := range otherResults[:cap(otherResults)] {
		otherResults[:cap(otherResults)][i] = res(99, 99, "spoilt")
	}
	if !slices.Equal(given, roomyLog()) {
		t.Fatalf("what was given is spoilt: %v", given)
	}
	spoil(given)
	wantCells := []api.Cell{cell(1, "a"), cell(2, "b")}
	wantResults := []api.Result{res(api.ResWritten, 1, "a"), res(api.ResWritten, 2, "b"), res(api.ResFound, 1, "a")}
	if !slices.Equal(cells, wantCells) || !slices.Equal(results, wantResults) {
		t.Errorf("Replay's answers have turned: %v, %v", cells, results)
	}
	expectReplay(t, roomyLog()[:3], 3, wantCells, wantResults)
}

// P3: nil and empty lists are the same.
func TestNilAndEmpty(t *testing.T) {
	none := []api.Entry{}
	for n := -1; n <= 2; n++ {
		a, eA := oplog.Cut(nil, n)
		b, eB := oplog.Cut(none, n)
		c, eC := oplog.Tail(nil, n)
		d, eD := oplog.Tail(none, n)
		if eA != eB || eC != eD || len(a)+len(b)+len(c)+len(d) != 0 {
			t.Errorf("Cut and Tail of none, %d: %v %d, %v %d, %v %d, %v %d", n, a, eA, b, eB, c, eC, d, eD)
		}
		if (eA == api.OK) != (n == 0) || (eC == api.OK) != (n == 1) {
			t.Errorf("Cut and Tail of none, %d: %d, %d", n, eA, eC)
		}
	}
}

// P1 and P5: every call ends, with numbers at their ends and any lists.
func TestEveryCallEnds(t *testing.T) {
	r := rand.New(rand.NewPCG(6, 13))
	numbers := []int{math.MinInt, math.MinInt + 1, -257, -256, -1, 0, 1, 2, 3, 255, 256, 257, math.MaxInt - 1, math.MaxInt}
	for range 200 {
		l, other := someList(r, r.IntN(5)), someList(r, r.IntN(5))
		for _, a := range numbers {
			oplog.Check(l, a)
			oplog.Append(l, a, someList(r, 1)[0])
			oplog.Cut(l, a)
			oplog.Tail(l, a)
			oplog.Agree(l, other, a)
			oplog.Last(l, a)
			oplog.Replay(l, a)
			gather(oplog.Each(l, a))
			for _, b := range numbers {
				oplog.Splice(l, a, b, other)
				oplog.Splice(nil, a, b, nil)
				oplog.Find(l, a, b)
			}
		}
	}
}

// Asked side by side of one log: none writes to what it was given.
func TestSideBySide(t *testing.T) {
	log := longLog(255)
	each := oplog.Each(log, 1)
	ended := make(chan api.Errno)
	for i := range 8 {
		go func() {
			a, _ := oplog.Check(log, 256)
			_, b := oplog.Append(log, 256, w(i, math.MaxInt))
			_, c := oplog.Splice(log, 256, 32*i+1, log[32*i:])
			_, _, d := oplog.Replay(log, 32*i)
			oplog.Common(log, log[:i])
			oplog.Find(log, i, i)
			oplog.Last(log, i)
			gather(each)
			ended <- a + b + c + d
		}()
	}
	for range 8 {
		if e := <-ended; e != api.OK {
			t.Errorf("side by side: %d", e)
		}
	}
}
