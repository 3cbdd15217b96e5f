package vector_test

import (
	"math"
	"math/rand/v2"
	"slices"
	"testing"

	"amnesia/api"
	"amnesia/nonce"
	"amnesia/vector"
)

const top = math.MaxUint64

func hl(hi, lo uint64) api.Draw { return api.Draw{Hi: hi, Lo: lo} }

// A crash vector of which the Lo halves alone are told.
func lo(l ...uint64) api.Vector {
	var v api.Vector
	for _, x := range l {
		v = append(v, hl(0, x))
	}
	return v
}

// Draws that differ in Hi alone, in Lo alone, in both one way and in both the other way, to the ends of both halves.
func someDraws() []api.Draw {
	return []api.Draw{hl(0, 0), hl(0, 1), hl(0, top), hl(1, 0), hl(1, 1), hl(1, top), hl(2, 0), hl(1<<63, 1<<63), hl(top, 0), hl(top, top)}
}

// All crash vectors of so many entries out of these draws.
func allVectors(nodes int, out []api.Draw) []api.Vector {
	all := []api.Vector{nil}
	for range nodes {
		var longer []api.Vector
		for _, v := range all {
			for _, d := range out {
				longer = append(longer, append(slices.Clone(v), d))
			}
		}
		all = longer
	}
	return all
}

func someVector(r *rand.Rand, nodes int) api.Vector {
	l := someDraws()
	var v api.Vector
	for range nodes {
		v = append(v, l[r.IntN(len(l))])
	}
	return v
}

// Lengths that no crash vector has.
var wrongLengths = []int{0, api.MaxNodes + 1, api.MaxNodes + 2, 1000}

// Numbers of replicas that no group has.
var wrongNodes = []int{math.MinInt, -api.MaxNodes, -1, 0, api.MaxNodes + 1, 2 * api.MaxNodes, 1 << 32, 1<<32 + 1, math.MaxInt}

// P3.1: New and Check.

func TestNew(t *testing.T) {
	for nodes := 1; nodes <= api.MaxNodes; nodes++ {
		v, e := vector.New(nodes)
		if e != api.OK || len(v) != nodes {
			t.Fatalf("New(%d): %v, %d", nodes, v, e)
		}
		for i, d := range v {
			if d != hl(0, 0) {
				t.Errorf("New(%d): entry %d is %v", nodes, i, d)
			}
		}
	}
	for _, nodes := range wrongNodes {
		if v, e := vector.New(nodes); len(v) != 0 || e != api.ErrArg {
			t.Errorf("New(%d): %v, %d, want ErrArg", nodes, v, e)
		}
	}
}

func TestCheck(t *testing.T) {
	r := rand.New(rand.NewPCG(3, 1))
	for length := range api.MaxNodes + 3 {
		for nodes := 1; nodes <= api.MaxNodes; nodes++ {
			want := api.ErrVector
			if length == nodes {
				want = api.OK
			}
			if e := vector.Check(someVector(r, length), nodes); e != want {
				t.Errorf("Check(%d entries, %d): %d, want %d", length, nodes, e, want)
			}
		}
	}
	if e := vector.Check(api.Vector{hl(top, top)}, 1); e != api.OK {
		t.Error("any draws may stand in it", e)
	}
	if e := vector.Check(nil, 1); e != api.ErrVector {
		t.Error("nil", e)
	}
}

// ErrArg comes first, even where v has so many entries.
func TestCheckOfNoGroup(t *testing.T) {
	for _, nodes := range wrongNodes {
		for _, v := range []api.Vector{nil, {}, lo(1), make(api.Vector, api.MaxNodes), make(api.Vector, api.MaxNodes+1)} {
			if e := vector.Check(v, nodes); e != api.ErrArg {
				t.Errorf("Check(%d entries, %d): %d, want ErrArg", len(v), nodes, e)
			}
		}
	}
}

// P3.1: Set.

func TestSet(t *testing.T) {
	r := rand.New(rand.NewPCG(3, 2))
	for nodes := 1; nodes <= api.MaxNodes; nodes++ {
		for node := range nodes {
			for _, d := range someDraws() {
				v := someVector(r, nodes)
				want := slices.Clone(v)
				want[node] = d
				if got, e := vector.Set(v, node, d); e != api.OK || !slices.Equal(got, want) {
					t.Fatalf("Set(%v, %d, %v): %v, %d", v, node, d, got, e)
				}
			}
		}
	}
}

func TestSetAsksNotWhatStoodThere(t *testing.T) {
	for _, d := range []api.Draw{hl(0, 0), hl(4, 9), hl(5, 6), hl(5, 7), hl(5, 8)} {
		want := api.Vector{hl(0, 1), d, hl(0, 3)}
		if got, e := vector.Set(api.Vector{hl(0, 1), hl(5, 7), hl(0, 3)}, 1, d); e != api.OK || !slices.Equal(got, want) {
			t.Errorf("%v: %v, %d", d, got, e)
		}
	}
}

func TestSetOfWhatMayNotBe(t *testing.T) {
	for nodes := 1; nodes <= api.MaxNodes; nodes++ {
		for _, node := range []int{math.MinInt, -nodes, -1, nodes, nodes + 1, api.MaxNodes, 1 << 32, math.MaxInt} {
			if v, e := vector.Set(make(api.Vector, nodes), node, hl(0, 1)); len(v) != 0 || e != api.ErrArg {
				t.Errorf("Set(%d entries, %d): %v, %d, want ErrArg", nodes, node, v, e)
			}
		}
	}
	for _, length := range wrongLengths {
		for _, node := range []int{-1, 0, length - 1, length, math.MaxInt} {
			if v, e := vector.Set(make(api.Vector, length), node, hl(0, 1)); len(v) != 0 || e != api.ErrVector {
				t.Errorf("Set(%d entries, %d): %v, %d, want ErrVector", length, node, v, e)
			}
		}
	}
	if v, e := vector.Set(nil, 0, hl(0, 1)); len(v) != 0 || e != api.ErrVector {
		t.Error("nil", v, e)
	}
}

// P3.1: Merge.

func TestMerge(t *testing.T) {
	for _, c := range []struct {
		l    []api.Vector
		want api.Vector
	}{
		{[]api.Vector{lo(5, 0, 0), lo(0, 0, 7), lo(3, 1, 0)}, lo(5, 1, 7)}, // example 1
		{[]api.Vector{lo(4)}, lo(4)},
		{[]api.Vector{lo(4), lo(3)}, lo(4)},
		{[]api.Vector{{hl(1, 9), hl(2, 0)}, {hl(2, 0), hl(1, 9)}}, api.Vector{hl(2, 0), hl(2, 0)}},
		{[]api.Vector{{hl(1, 5), hl(1, 6)}, {hl(1, 6), hl(1, 5)}}, api.Vector{hl(1, 6), hl(1, 6)}},
		{[]api.Vector{{hl(top, top), hl(0, 0)}, {hl(0, 0), hl(top, top)}}, api.Vector{hl(top, top), hl(top, top)}},
		{[]api.Vector{lo(0, 0, 0, 0, 0, 0, 9), lo(7, 6, 5, 4, 3, 2, 1)}, lo(7, 6, 5, 4, 3, 2, 9)},
	} {
		if got, e := vector.Merge(c.l...); e != api.OK || !slices.Equal(got, c.want) {
			t.Errorf("Merge(%v): %v, %d, want %v", c.l, got, e, c.want)
		}
	}
}

func TestMergeIsTheGreatestAtEachPlace(t *testing.T) {
	r := rand.New(rand.NewPCG(3, 3))
	for range 20000 {
		nodes := 1 + r.IntN(api.MaxNodes)
		var l []api.Vector
		for range 1 + r.IntN(6) {
			l = append(l, someVector(r, nodes))
		}
		got, e := vector.Merge(l...)
		if e != api.OK || len(got) != nodes {
			t.Fatalf("Merge(%v): %v, %d", l, got, e)
		}
		for i, d := range got {
			greatest := slices.MaxFunc(l, func(a, b api.Vector) int { return nonce.Compare(a[i], b[i]) })
			if d != greatest[i] {
				t.Fatalf("Merge(%v): %v", l, got)
			}
		}
	}
}

func TestMergeOfWhatMayNotBe(t *testing.T) {
	wrong := [][]api.Vector{
		nil, {}, {nil}, {{}}, {nil, nil}, {nil, lo(1)}, {lo(1), nil}, {lo(1), lo(2), {}},
		{lo(1), lo(1, 2)}, {lo(1, 2), lo(1)}, {lo(1, 2), lo(3, 4), lo(5)}, {lo(5), lo(1, 2), lo(3, 4)}, {lo(1, 2), lo(3), lo(4, 5)},
		{make(api.Vector, 7), make(api.Vector, 8)}, {make(api.Vector, 8), make(api.Vector, 7)},
	}
	for _, length := range wrongLengths {
		v := make(api.Vector, length)
		wrong = append(wrong, []api.Vector{v}, []api.Vector{v, v}, []api.Vector{lo(1), v}, []api.Vector{v, lo(1)})
	}
	for _, l := range wrong {
		if got, e := vector.Merge(l...); len(got) != 0 || e != api.ErrVector {
			t.Errorf("Merge(%v): %v, %d, want ErrVector", l, got, e)
		}
	}
}

// P3.1: Compare.

func TestCompare(t *testing.T) {
	long, longer := make(api.Vector, api.MaxNodes+1), make(api.Vector, api.MaxNodes+2)
	above := append(make(api.Vector, api.MaxNodes), hl(0, 1))
	for _, c := range []struct {
		a, b       api.Vector
		there, way api.Relation
	}{
		{lo(5, 0), lo(5, 1), api.RelationBefore, api.RelationAfter}, // example 2
		{lo(5, 0), lo(4, 1), api.RelationApart, api.RelationApart},
		{lo(5), lo(5, 0), api.RelationNone, api.RelationNone},
		{nil, nil, api.RelationSame, api.RelationSame},
		{nil, api.Vector{}, api.RelationSame, api.RelationSame},
		{nil, lo(0), api.RelationNone, api.RelationNone},
		{lo(0), lo(0), api.RelationSame, api.RelationSame},
		{lo(1, 2, 3), lo(1, 2, 3), api.RelationSame, api.RelationSame},
		{lo(1, 2, 3), lo(1, 2, 4), api.RelationBefore, api.RelationAfter},
		{lo(1, 2, 3), lo(2, 2, 3), api.RelationBefore, api.RelationAfter},
		{lo(1, 2, 3), lo(2, 3, 4), api.RelationBefore, api.RelationAfter},
		{lo(1, 2, 3), lo(0, 2, 4), api.RelationApart, api.RelationApart},
		{lo(1, 2, 3), lo(2, 1, 3), api.RelationApart, api.RelationApart},
		{api.Vector{hl(1, 0)}, api.Vector{hl(2, 0)}, api.RelationBefore, api.RelationAfter},
		{api.Vector{hl(1, 9)}, api.Vector{hl(2, 0)}, api.RelationBefore, api.RelationAfter},
		{api.Vector{hl(7, top-1)}, api.Vector{hl(7, top)}, api.RelationBefore, api.RelationAfter},
		{api.Vector{hl(1, 9), hl(0, 0)}, api.Vector{hl(2, 0), hl(0, 0)}, api.RelationBefore, api.RelationAfter},
		{api.Vector{hl(1, 9), hl(1, 0)}, api.Vector{hl(2, 0), hl(0, top)}, api.RelationApart, api.RelationApart},
		{make(api.Vector, api.MaxNodes), make(api.Vector, api.MaxNodes), api.RelationSame, api.RelationSame},
		// Two of which none may be are compared all the same.
		{long, make(api.Vector, api.MaxNodes+1), api.RelationSame, api.RelationSame},
		{long, above, api.RelationBefore, api.RelationAfter},
		{long, longer, api.RelationNone, api.RelationNone},
		{make(api.Vector, api.MaxNodes), long, api.RelationNone, api.RelationNone},
	} {
		if got := vector.Compare(c.a, c.b); got != c.there {
			t.Errorf("Compare(%v, %v): %d, want %d", c.a, c.b, got, c.there)
		}
		if got := vector.Compare(c.b, c.a); got != c.way {
			t.Errorf("Compare(%v, %v): %d, want %d", c.b, c.a, got, c.way)
		}
	}
}

// P3.2: the merge is the least that is above all.

func merge(t *testing.T, l ...api.Vector) api.Vector {
	t.Helper()
	m, e := vector.Merge(l...)
	if e != api.OK {
		t.Fatalf("Merge(%v): %d", l, e)
	}
	return m
}

func isAbove(a, b api.Vector) bool {
	r := vector.Compare(a, b)
	return r == api.RelationAfter || r == api.RelationSame
}

// Four draws: two differ in Hi alone, two in Lo alone, and one has the greater Hi with the lesser Lo.
var fewDraws = []api.Draw{hl(0, 0), hl(0, 2), hl(1, 0), hl(1, 1)}

func checkMergeOfThree(t *testing.T, a, b, c api.Vector) {
	t.Helper()
	m := merge(t, a, b)
	if !slices.Equal(m, merge(t, b, a)) || !slices.Equal(m, merge(t, a, b, a, b, b)) || !slices.Equal(merge(t, a, a), a) || !slices.Equal(merge(t, a), a) {
		t.Fatalf("order, or the same twice: %v, %v", a, b)
	}
	all := merge(t, a, b, c)
	if !slices.Equal(all, merge(t, m, c)) || !slices.Equal(all, merge(t, a, merge(t, b, c))) || !slices.Equal(all, merge(t, c, a, b)) || !slices.Equal(all, merge(t, b, a, c)) {
		t.Fatalf("order or grouping: %v, %v, %v", a, b, c)
	}
	if r := vector.Compare(a, m); r != api.RelationSame && r != api.RelationBefore {
		t.Fatalf("Compare(%v, %v): %d", a, m, r)
	}
	if (isAbove(c, a) && isAbove(c, b)) != isAbove(c, m) {
		t.Fatalf("%v is above %v and %v, but not above their merge %v, or the other way", c, a, b, m)
	}
}

func TestMergeIsTheLeastAboveAll(t *testing.T) {
	for nodes := 1; nodes <= 2; nodes++ {
		all := allVectors(nodes, fewDraws)
		for _, a := range all {
			for _, b := range all {
				for _, c := range all {
					checkMergeOfThree(t, a, b, c)
				}
			}
		}
	}
	r := rand.New(rand.NewPCG(3, 4))
	for range 20000 {
		nodes := 1 + r.IntN(api.MaxNodes)
		checkMergeOfThree(t, someVector(r, nodes), someVector(r, nodes), someVector(r, nodes))
	}
}

// P3.3: Compare is an order in part.

func backOf(r api.Relation) api.Relation {
	switch r {
	case api.RelationBefore:
		return api.RelationAfter
	case api.RelationAfter:
		return api.RelationBefore
	}
	return r
}

func checkOrder(t *testing.T, a, b, c api.Vector) {
	t.Helper()
	ab, bc, ac := vector.Compare(a, b), vector.Compare(b, c), vector.Compare(a, c)
	if (ab == api.RelationSame) != slices.Equal(a, b) {
		t.Fatalf("Compare(%v, %v): %d", a, b, ab)
	}
	if back := vector.Compare(b, a); back != backOf(ab) {
		t.Fatalf("Compare(%v, %v): %d, the other way %d", a, b, ab, back)
	}
	if ab == api.RelationBefore && bc == api.RelationBefore && ac != api.RelationBefore {
		t.Fatalf("Before twice over: %v, %v, %v: %d", a, b, c, ac)
	}
	if ab == api.RelationSame && bc != ac {
		t.Fatalf("the same, but otherwise to a third: %v, %v: %d, %d", a, c, ac, bc)
	}
}

func TestCompareIsAnOrderInPart(t *testing.T) {
	var all []api.Vector
	for nodes := range 3 {
		all = append(all, allVectors(nodes, fewDraws)...)
	}
	for _, a := range all {
		for _, b := range all {
			for _, c := range all {
				checkOrder(t, a, b, c)
			}
		}
	}
	r := rand.New(rand.NewPCG(3, 5))
	for range 20000 {
		a := someVector(r, api.MaxNodes)
		// Two that are raised step by step, so that Before twice over comes often.
		b := merge(t, a, someVector(r, api.MaxNodes))
		checkOrder(t, a, b, merge(t, b, someVector(r, api.MaxNodes)))
		checkOrder(t, a, someVector(r, api.MaxNodes), b)
	}
}

// P3.5: what is handed in stays as it was, and answers are memory of their own.

// A vector with draws in the room behind its end, and a second look at all of it.
func roomy(v api.Vector) (api.Vector, api.Vector) {
	room := append(slices.Clone(v), hl(8, 8), hl(9, 9))
	return room[:len(v):len(room)], room
}

func TestVectorsHandedInStay(t *testing.T) {
	a, roomA := roomy(lo(1, 5, 0))
	b, roomB := roomy(lo(4, 2, 7))
	wantA, wantB := append(lo(1, 5, 0), hl(8, 8), hl(9, 9)), append(lo(4, 2, 7), hl(8, 8), hl(9, 9))
	vector.Check(a, 3)
	vector.Set(a, 1, hl(3, 3))
	vector.Set(a, 3, hl(3, 3))
	vector.Compare(a, b)
	vector.Merge(a)
	vector.Merge(a, b)
	vector.Merge(a, b, lo(1))
	list := []api.Vector{a, b, a}
	vector.Merge(list[:2]...)
	if !slices.Equal(roomA, wantA) || !slices.Equal(roomB, wantB) {
		t.Error("a vector was changed", roomA, roomB)
	}
	if !slices.Equal(list[0], lo(1, 5, 0)) || !slices.Equal(list[1], lo(4, 2, 7)) || !slices.Equal(list[2], lo(1, 5, 0)) {
		t.Error("the list was changed", list)
	}
}

// Spoils a vector to the end of its room.
func spoil(v api.Vector) {
	for i := range v[:cap(v)] {
		v[:cap(v)][i] = hl(77, 77)
	}
}

func TestVectorsAnsweredAreNew(t *testing.T) {
	first, _ := vector.New(3)
	spoil(first)
	if v, _ := vector.New(3); !slices.Equal(v, lo(0, 0, 0)) {
		t.Error("New", v)
	}
	a, roomA := roomy(lo(1, 5, 0))
	b, roomB := roomy(lo(1, 0, 0))
	wantA, wantB := append(lo(1, 5, 0), hl(8, 8), hl(9, 9)), append(lo(1, 0, 0), hl(8, 8), hl(9, 9))
	same, _ := vector.Set(a, 1, hl(0, 5))
	alone, _ := vector.Merge(a)
	// The one that is handed in first, and then the one behind it, is the merge itself.
	firstIs, _ := vector.Merge(a, b)
	secondIs, _ := vector.Merge(b, a)
	answers := []api.Vector{same, alone, firstIs, secondIs}
	for i, v := range answers {
		spoil(v)
		if !slices.Equal(roomA, wantA) || !slices.Equal(roomB, wantB) {
			t.Fatalf("answer %d shares memory with what was handed in", i)
		}
		for k, w := range answers[i+1:] {
			if !slices.Equal(w, lo(1, 5, 0)) {
				t.Fatalf("answers %d and %d share memory", i, i+1+k)
			}
		}
	}
}

func TestVectorsHandedInAreNotKept(t *testing.T) {
	a, b := lo(1, 5, 0), lo(4, 2, 7)
	set, _ := vector.Set(a, 0, hl(3, 3))
	merged, _ := vector.Merge(a, b)
	spoil(a)
	spoil(b)
	if !slices.Equal(set, api.Vector{hl(3, 3), hl(0, 5), hl(0, 0)}) || !slices.Equal(merged, lo(4, 5, 7)) {
		t.Error("an answer has changed", set, merged)
	}
}
