package vector_test

import (
	"math"
	"math/rand/v2"
	"slices"
	"testing"

	"amnesia/api"
	"amnesia/nonce"
	"amnesia/vector"
)

func voice(node int, v api.Vector) api.Voice { return api.Voice{Node: node, Vector: v} }

// What a voice must not be: a vector that may not be, or a node that is no place of it.
func wrongVoices() []api.Voice {
	l := []api.Voice{{}, voice(0, nil), voice(0, api.Vector{}), voice(-1, nil), voice(-1, lo(0, 0, 0)), voice(3, lo(0, 0, 0)), voice(4, lo(0, 0, 0)), voice(api.MaxNodes, lo(0, 0, 0)), voice(-3, lo(0, 0, 0)), voice(math.MinInt, lo(0, 0, 0)), voice(math.MaxInt, lo(0, 0, 0)), voice(1<<32, lo(0, 0, 0)), voice(1, lo(0)), voice(-1, lo(0)), voice(api.MaxNodes, make(api.Vector, api.MaxNodes))}
	for _, length := range wrongLengths {
		l = append(l, voice(0, make(api.Vector, length)), voice(length-1, make(api.Vector, length)))
	}
	return l
}

// P3.1: Over.

func TestOver(t *testing.T) {
	for _, c := range []struct {
		v    api.Vector
		m    api.Voice
		want bool
	}{
		{lo(4, 0, 0), voice(0, lo(3, 0, 0)), true}, // example 5
		{lo(4, 0, 0), voice(0, lo(4, 0, 0)), false},
		{lo(4, 0, 0), voice(0, lo(5, 0, 0)), false},
		{lo(4, 0, 0), voice(1, lo(3, 0, 0)), false}, // another replica's life is over
		{lo(4, 9, 9), voice(0, lo(4, 0, 0)), false},
		{lo(0, 0, 1), voice(2, lo(9, 9, 0)), true},
		{lo(1), voice(0, lo(0)), true},
		{lo(0), voice(0, lo(0)), false},
		{lo(0, 0, 0, 0, 0, 0, 1), voice(6, lo(0, 0, 0, 0, 0, 0, 0)), true},
		{lo(0, 0, 0, 0, 0, 0, 1), voice(5, lo(0, 0, 0, 0, 0, 0, 0)), false},
		{api.Vector{hl(2, 0)}, voice(0, api.Vector{hl(1, 9)}), true},
		{api.Vector{hl(1, 9)}, voice(0, api.Vector{hl(2, 0)}), false},
		{api.Vector{hl(2, 5)}, voice(0, api.Vector{hl(1, 5)}), true},
		{api.Vector{hl(2, 5)}, voice(0, api.Vector{hl(2, 4)}), true},
		{api.Vector{hl(2, 5)}, voice(0, api.Vector{hl(2, 6)}), false},
		{api.Vector{hl(top, top)}, voice(0, api.Vector{hl(top, top-1)}), true},
		{lo(4, 0, 0), voice(0, lo(3, 0)), false},
		{lo(4, 0), voice(0, lo(3, 0, 0)), false},
		{nil, voice(0, lo(3, 0, 0)), false},
		{nil, api.Voice{}, false},
		{append(lo(4), make(api.Vector, api.MaxNodes)...), voice(0, append(lo(3), make(api.Vector, api.MaxNodes)...)), false},
		{append(lo(4), make(api.Vector, api.MaxNodes)...), voice(0, lo(3)), false},
	} {
		if got := vector.Over(c.v, c.m); got != c.want {
			t.Errorf("Over(%v, %v): %v", c.v, c.m, got)
		}
	}
	for _, m := range wrongVoices() {
		high := make(api.Vector, len(m.Vector))
		for i := range high {
			high[i] = hl(top, top)
		}
		for _, v := range []api.Vector{high, nil, {hl(top, top)}, {hl(9, 9), hl(9, 9), hl(9, 9)}} {
			if vector.Over(v, m) {
				t.Errorf("Over(%v, %v), of what may not be", v, m)
			}
		}
	}
}

// P3.1: Consistent and Alive.

func TestConsistentAndAlive(t *testing.T) {
	for _, c := range []struct {
		l     []api.Voice
		i, k  int
		alive []int
	}{
		{nil, -1, -1, nil},
		{[]api.Voice{}, -1, -1, nil},
		{[]api.Voice{voice(0, lo(0, 0, 0)), voice(1, lo(4, 0, 0))}, 0, 1, []int{1}},      // example 3
		{[]api.Voice{voice(0, lo(4, 0, 0)), voice(1, lo(4, 0, 0))}, -1, -1, []int{0, 1}}, // example 4
		{[]api.Voice{voice(1, lo(4, 0, 0)), voice(0, lo(0, 0, 0))}, 1, 0, []int{0}},
		{[]api.Voice{voice(0, lo(0))}, -1, -1, []int{0}},
		{[]api.Voice{voice(0, lo(9, 9))}, -1, -1, []int{0}},
		// Two lives of one replica.
		{[]api.Voice{voice(0, lo(3)), voice(0, lo(4))}, 0, 1, []int{1}},
		{[]api.Voice{voice(0, lo(4)), voice(0, lo(3))}, 1, 0, []int{0}},
		{[]api.Voice{voice(0, lo(4)), voice(0, lo(4))}, -1, -1, []int{0, 1}},
		// Each knows that the other one is over.
		{[]api.Voice{voice(0, lo(0, 1)), voice(1, lo(1, 0))}, 0, 1, nil},
		// What they know of a third is not asked.
		{[]api.Voice{voice(0, lo(0, 0, 5)), voice(1, lo(0, 0, 9))}, -1, -1, []int{0, 1}},
		// Places, not nodes; and draws that differ in Hi alone.
		{[]api.Voice{voice(2, lo(0, 0, 0)), voice(1, lo(0, 0, 0)), voice(0, api.Vector{hl(0, 0), hl(1, 0), hl(0, 0)})}, 1, 2, []int{0, 2}},
		{[]api.Voice{voice(0, api.Vector{hl(1, 9)}), voice(0, api.Vector{hl(2, 0)})}, 0, 1, []int{1}},
		{[]api.Voice{voice(0, api.Vector{hl(2, 1)}), voice(0, api.Vector{hl(2, 0)})}, 1, 0, []int{0}},
		// The least i goes ahead of the least k: 2 is over to 0, but 1 is over, to 3 alone.
		{[]api.Voice{voice(0, lo(0, 0, 1)), voice(1, lo(0, 0, 0)), voice(2, lo(0, 0, 0)), voice(0, lo(0, 1, 0))}, 1, 3, []int{0, 3}},
		// Of several that know, the first, though a later one knows of a later draw.
		{[]api.Voice{voice(0, lo(0, 0, 0)), voice(1, lo(0, 0, 0)), voice(1, lo(2, 0, 0)), voice(2, lo(7, 0, 0))}, 0, 2, []int{1, 2, 3}},
		{[]api.Voice{voice(6, lo(0, 0, 0, 0, 0, 0, 0)), voice(5, lo(0, 0, 0, 0, 0, 0, 1))}, 0, 1, []int{1}},
	} {
		if i, k, e := vector.Consistent(c.l...); i != c.i || k != c.k || e != api.OK {
			t.Errorf("Consistent(%v): %d, %d, %d, want %d, %d", c.l, i, k, e, c.i, c.k)
		}
		if got, e := vector.Alive(c.l...); !slices.Equal(got, c.alive) || e != api.OK {
			t.Errorf("Alive(%v): %v, %d, want %v", c.l, got, e, c.alive)
		}
	}
}

func checkVoicesRefused(t *testing.T, l ...api.Voice) {
	t.Helper()
	if i, k, e := vector.Consistent(l...); i != 0 || k != 0 || e != api.ErrVector {
		t.Errorf("Consistent(%v): %d, %d, %d, want ErrVector", l, i, k, e)
	}
	if got, e := vector.Alive(l...); len(got) != 0 || e != api.ErrVector {
		t.Errorf("Alive(%v): %v, %d, want ErrVector", l, got, e)
	}
}

func TestVoicesThatMayNotBe(t *testing.T) {
	good, over := voice(0, lo(0, 0, 0)), voice(1, lo(4, 0, 0))
	for _, m := range wrongVoices() {
		checkVoicesRefused(t, m)
		checkVoicesRefused(t, m, m)
		checkVoicesRefused(t, m, good)
		checkVoicesRefused(t, good, m)
		// Behind two that are not consistent: the error all the same.
		checkVoicesRefused(t, good, over, m)
	}
	checkVoicesRefused(t, voice(0, lo(1)), voice(0, lo(1, 2)))
	checkVoicesRefused(t, voice(0, lo(1, 2)), voice(0, lo(1)))
	checkVoicesRefused(t, good, over, voice(0, lo(1, 2)))
	checkVoicesRefused(t, voice(0, lo(1, 2)), good, over)
	checkVoicesRefused(t, voice(0, make(api.Vector, 7)), voice(0, make(api.Vector, 8)))
}

// The chapter's sentence, word by word: the least i, and for it the least k.
func firstPair(l []api.Voice) (int, int) {
	for i, m := range l {
		for k, other := range l {
			if nonce.Compare(other.Vector[m.Node], m.Vector[m.Node]) > 0 {
				return i, k
			}
		}
	}
	return -1, -1
}

// P3.4: what Consistent, Alive and Over say of one another.

func pick(l []api.Voice, places []int) []api.Voice {
	var part []api.Voice
	for _, p := range places {
		part = append(part, l[p])
	}
	return part
}

func isConsistent(t *testing.T, l []api.Voice) bool {
	t.Helper()
	i, k, e := vector.Consistent(l...)
	if wantI, wantK := firstPair(l); i != wantI || k != wantK || e != api.OK {
		t.Fatalf("Consistent(%v): %d, %d, %d, want %d, %d", l, i, k, e, wantI, wantK)
	}
	return i == -1
}

func checkParts(t *testing.T, l []api.Voice) {
	t.Helper()
	for set := range 1 << len(l) {
		var places []int
		for i := range l {
			if set>>i&1 == 1 {
				places = append(places, i)
			}
		}
		if !isConsistent(t, pick(l, places)) {
			t.Fatalf("%v are consistent, the part %v is not", l, places)
		}
	}
}

func checkVoices(t *testing.T, l []api.Voice) {
	t.Helper()
	alive, e := vector.Alive(l...)
	if e != api.OK || !slices.IsSorted(alive) || len(slices.Compact(slices.Clone(alive))) != len(alive) {
		t.Fatalf("Alive(%v): %v, %d", l, alive, e)
	}
	consistent := isConsistent(t, l)
	if consistent != (len(alive) == len(l)) {
		t.Fatalf("Consistent %v, Alive %v of %v", consistent, alive, l)
	}
	if consistent {
		checkParts(t, l)
	}
	if !isConsistent(t, pick(l, alive)) {
		t.Fatalf("Alive(%v): %v are not consistent", l, alive)
	}
	var vectors []api.Vector
	for _, m := range l {
		vectors = append(vectors, m.Vector)
	}
	merged := merge(t, vectors...)
	for i, m := range l {
		if vector.Over(merged, m) == slices.Contains(alive, i) {
			t.Fatalf("%v: voice %d is both over and alive, or neither", l, i)
		}
	}
}

func TestConsistentAliveAndOver(t *testing.T) {
	var all []api.Voice
	for _, v := range allVectors(2, []api.Draw{hl(0, 0), hl(0, 2), hl(1, 0)}) {
		all = append(all, voice(0, v), voice(1, v))
	}
	for _, a := range all {
		checkVoices(t, []api.Voice{a})
		for _, b := range all {
			checkVoices(t, []api.Voice{a, b})
			for _, c := range all {
				checkVoices(t, []api.Voice{a, b, c})
			}
		}
	}
	r := rand.New(rand.NewPCG(3, 6))
	for range 20000 {
		nodes := 1 + r.IntN(api.MaxNodes)
		var l []api.Voice
		for range 1 + r.IntN(8) {
			l = append(l, voice(r.IntN(nodes), rareVector(r, nodes)))
		}
		checkVoices(t, l)
	}
}

// A vector that is mostly zero, so that lists of voices are consistent often enough.
func rareVector(r *rand.Rand, nodes int) api.Vector {
	v := make(api.Vector, nodes)
	if r.IntN(2) == 0 {
		v[r.IntN(nodes)] = someVector(r, 1)[0]
	}
	return v
}

func TestManyVoices(t *testing.T) {
	l := slices.Repeat([]api.Voice{voice(0, lo(0, 0, 0))}, 200000)
	last := len(l) - 1
	if i, k, e := vector.Consistent(l...); i != -1 || k != -1 || e != api.OK {
		t.Error("Consistent", i, k, e)
	}
	l[last] = voice(1, lo(1, 0, 0))
	if i, k, e := vector.Consistent(l...); i != 0 || k != last || e != api.OK {
		t.Error("Consistent", i, k, e)
	}
	if alive, e := vector.Alive(l...); !slices.Equal(alive, []int{last}) || e != api.OK {
		t.Error("Alive", len(alive), e)
	}
}

// P3.5: what is handed in stays as it was, and answers are memory of their own.

func TestVoicesHandedInStay(t *testing.T) {
	a, roomA := roomy(lo(0, 1, 0))
	b, roomB := roomy(lo(4, 0, 0))
	wantA, wantB := append(lo(0, 1, 0), hl(8, 8), hl(9, 9)), append(lo(4, 0, 0), hl(8, 8), hl(9, 9))
	l := []api.Voice{voice(0, a), voice(1, b), voice(2, a), voice(-1, nil)}
	for range 2 {
		vector.Over(b, l[0])
		vector.Consistent(l[:3]...)
		vector.Alive(l[:3]...)
		vector.Consistent(l...)
		vector.Alive(l...)
	}
	if !slices.Equal(roomA, wantA) || !slices.Equal(roomB, wantB) {
		t.Error("a vector was changed", roomA, roomB)
	}
	for i, want := range []api.Voice{voice(0, lo(0, 1, 0)), voice(1, lo(4, 0, 0)), voice(2, lo(0, 1, 0)), voice(-1, nil)} {
		if l[i].Node != want.Node || !slices.Equal(l[i].Vector, want.Vector) {
			t.Errorf("voice %d was changed: %v", i, l[i])
		}
	}
}

func TestAliveIsNew(t *testing.T) {
	l := []api.Voice{voice(0, lo(0, 0)), voice(1, lo(0, 0))}
	first, _ := vector.Alive(l...)
	for i := range first[:cap(first)] {
		first[:cap(first)][i] = 77
	}
	if second, e := vector.Alive(l...); e != api.OK || !slices.Equal(second, []int{0, 1}) {
		t.Error(second, e)
	}
	if !slices.Equal(l[0].Vector, lo(0, 0)) || !slices.Equal(l[1].Vector, lo(0, 0)) || l[0].Node != 0 || l[1].Node != 1 {
		t.Error("the voices have changed", l)
	}
}
