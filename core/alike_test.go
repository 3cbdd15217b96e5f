package core_test

import (
	"math/rand/v2"
	"reflect"
	"testing"

	"amnesia/api"
	"amnesia/core"
)

// P9.1: Alike.

// A state with something in every field, and two votes in each list; it may not be.
func fullState() api.State {
	return api.State{
		Self: 1, Status: 2, View: 3, Last: 4, Log: logOf(2), Commit: 5, Vector: api.Vector{{Hi: 1, Lo: 2}, {Hi: 3, Lo: 4}}, Idle: 6,
		Acks:    []api.Ack{{Node: 1, Draw: api.Draw{Hi: 1, Lo: 1}, Place: 2}, {Node: 2, Draw: lo(3), Place: 4}},
		Marks:   []api.Mark{{Node: 1, Draw: api.Draw{Hi: 1, Lo: 1}}, {Node: 2, Draw: lo(3)}},
		Ballots: []api.Ballot{{Node: 1, Draw: api.Draw{Hi: 1, Lo: 1}, Last: 2, Commit: 3, Log: logOf(2)}, {Node: 2, Log: logOf(1)}},
		Answers: []api.Answer{{Node: 1, Draw: api.Draw{Hi: 1, Lo: 1}, View: 2, Commit: 3, Log: logOf(2)}, {Node: 2, Log: logOf(1)}},
	}
}

// eachPart: every number, text and list that a value has, wherever it lies.
func eachPart(v reflect.Value, visit func(reflect.Value)) {
	switch v.Kind() {
	case reflect.Struct:
		for i := range v.NumField() {
			eachPart(v.Field(i), visit)
		}
	case reflect.Slice:
		visit(v)
		for i := range v.Len() {
			eachPart(v.Index(i), visit)
		}
	default:
		visit(v)
	}
}

// nudged: the part, changed a little; lists lose their last, or have their first once more.
func nudged(v reflect.Value) []reflect.Value {
	copied := reflect.New(v.Type()).Elem()
	copied.Set(v)
	switch v.Kind() {
	case reflect.Int:
		copied.SetInt(v.Int() + 1)
	case reflect.Uint64:
		copied.SetUint(v.Uint() ^ 1)
	case reflect.String:
		copied.SetString(v.String() + "x")
	case reflect.Slice:
		if v.Len() == 0 {
			return nil
		}
		longer := reflect.AppendSlice(reflect.MakeSlice(v.Type(), 0, v.Len()+1), v)
		return []reflect.Value{v.Slice(0, v.Len()-1), reflect.Append(longer, v.Index(0)), reflect.Zero(v.Type())}
	}
	return []reflect.Value{copied}
}

func TestAlikeOfStatesUnlikeInOneField(t *testing.T) {
	a, b := fullState(), fullState()
	parts := 0
	eachPart(reflect.ValueOf(&b).Elem(), func(part reflect.Value) {
		was := reflect.New(part.Type()).Elem()
		was.Set(part)
		for _, other := range nudged(was) {
			part.Set(other)
			if core.Alike(a, b) || core.Alike(b, a) {
				t.Errorf("alike: %+v, %+v", a, b)
			}
			parts++
		}
		part.Set(was)
		if !core.Alike(a, b) || !core.Alike(b, a) {
			t.Fatal("unlike, though the same")
		}
	})
	if parts < 100 {
		t.Error("too few parts:", parts)
	}
}

// The order of votes counts.
func TestAlikeOfListsInAnotherOrder(t *testing.T) {
	for _, swap := range []func(*api.State){
		func(s *api.State) { s.Log[0], s.Log[1] = s.Log[1], s.Log[0] },
		func(s *api.State) { s.Vector[0], s.Vector[1] = s.Vector[1], s.Vector[0] },
		func(s *api.State) { s.Acks[0], s.Acks[1] = s.Acks[1], s.Acks[0] },
		func(s *api.State) { s.Marks[0], s.Marks[1] = s.Marks[1], s.Marks[0] },
		func(s *api.State) { s.Ballots[0], s.Ballots[1] = s.Ballots[1], s.Ballots[0] },
		func(s *api.State) { s.Answers[0], s.Answers[1] = s.Answers[1], s.Answers[0] },
	} {
		b := fullState()
		swap(&b)
		if core.Alike(fullState(), b) {
			t.Error("alike, though in another order")
		}
	}
}

// P3 of DOC.md: nil and empty lists are one.
func TestAlikeOfNilAndEmpty(t *testing.T) {
	empty := api.State{Log: []api.Entry{}, Vector: api.Vector{}, Acks: []api.Ack{}, Marks: []api.Mark{}, Ballots: []api.Ballot{}, Answers: []api.Answer{}}
	if !core.Alike(empty, api.State{}) || !core.Alike(api.State{}, empty) || !core.Alike(empty, empty) || !core.Alike(api.State{}, api.State{}) {
		t.Error("nil and empty are unlike")
	}
	a := api.State{Ballots: []api.Ballot{{Node: 1}}, Answers: []api.Answer{{Node: 2}}}
	b := api.State{Ballots: []api.Ballot{{Node: 1, Log: []api.Entry{}}}, Answers: []api.Answer{{Node: 2, Log: []api.Entry{}}}}
	if !core.Alike(a, b) || !core.Alike(b, a) {
		t.Error("nil and empty are unlike in votes")
	}
}

func TestAlikeByItsWords(t *testing.T) {
	r := rand.New(rand.NewPCG(9, 7))
	met := make(map[bool]int)
	for range 20000 {
		a := someState(r, pick(r, configs()...))
		b := own(a)
		for range r.IntN(2) {
			spoilOne(r, &b)
		}
		met[same(a, b)]++
		if core.Alike(a, b) != same(a, b) || core.Alike(b, a) != same(a, b) {
			t.Fatalf("%+v, %+v", a, b)
		}
	}
	if met[true] < 1000 || met[false] < 1000 {
		t.Error("too few of some:", met)
	}
}
