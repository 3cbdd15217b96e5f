package explore_test

import (
	"reflect"
	"strconv"
	"strings"
	"sync"
	"testing"

	"amnesia/api"
	"amnesia/explore"
)

// P2 and P3 of DOC.md: whose memory is whose.

// room: a list with marks in the room behind it.
func room[T any](l []T, marks ...T) []T {
	return append(append(make([]T, 0, len(l)+len(marks)), l...), marks...)[:len(l)]
}

// eachList: every list that a value reaches, those that lie in a list's spare room too.
func eachList(v reflect.Value, visit func(reflect.Value)) {
	switch v.Kind() {
	case reflect.Struct:
		for i := range v.NumField() {
			eachList(v.Field(i), visit)
		}
	case reflect.Slice:
		visit(v)
		whole := v.Slice(0, v.Cap())
		for i := range whole.Len() {
			eachList(whole.Index(i), visit)
		}
	case reflect.Interface:
		eachList(v.Elem(), visit)
	}
}

// dump: all that a value reaches as text; spare room too, if it is asked for.
func dump(v reflect.Value, spare bool, b *strings.Builder) {
	switch v.Kind() {
	case reflect.Struct:
		for i := range v.NumField() {
			dump(v.Field(i), spare, b)
		}
	case reflect.Slice:
		b.WriteString("[" + strconv.Itoa(v.Len()) + ":")
		if spare {
			v = v.Slice(0, v.Cap())
		}
		for i := range v.Len() {
			dump(v.Index(i), spare, b)
		}
		b.WriteString("]")
	case reflect.Interface:
		dump(v.Elem(), spare, b)
	case reflect.String:
		b.WriteString(strconv.Quote(v.String()))
	case reflect.Bool:
		b.WriteString(strconv.FormatBool(v.Bool()))
	case reflect.Uint64, reflect.Uint8:
		b.WriteString(strconv.FormatUint(v.Uint(), 10) + " ")
	default:
		b.WriteString(strconv.FormatInt(v.Int(), 10) + " ")
	}
}

func dumped(spare bool, things ...any) string {
	var b strings.Builder
	for _, thing := range things {
		dump(reflect.ValueOf(thing), spare, &b)
	}
	return b.String()
}

// spoilAll writes over all that a value's lists reach, their spare room too.
func spoilAll(things ...any) {
	for _, thing := range things {
		eachList(reflect.ValueOf(thing), func(list reflect.Value) {
			whole := list.Slice(0, list.Cap())
			for i := range whole.Len() {
				spoilPart(whole.Index(i))
			}
		})
	}
}

func spoilPart(v reflect.Value) {
	switch v.Kind() {
	case reflect.Struct:
		for i := range v.NumField() {
			spoilPart(v.Field(i))
		}
	case reflect.Int:
		v.SetInt(-99)
	case reflect.Uint64, reflect.Uint8:
		v.SetUint(v.Uint() ^ 0x55)
	case reflect.String:
		v.SetString("spoilt")
	}
}

// span is a piece of memory: of lists that have room for nothing there is none.
type span struct{ from, to uintptr }

func spans(things ...any) []span {
	var l []span
	for _, thing := range things {
		eachList(reflect.ValueOf(thing), func(list reflect.Value) {
			if list.Cap() > 0 {
				l = append(l, span{list.Pointer(), list.Pointer() + uintptr(list.Cap())*list.Type().Elem().Size()})
			}
		})
	}
	return l
}

// expectApart: no list of an answer lies over another one of it, nor over one of what was given.
func expectApart(t *testing.T, what string, answer any, given ...any) {
	t.Helper()
	mine, theirs := spans(answer), spans(given...)
	for i, a := range mine {
		for _, b := range append(theirs, mine[:i]...) {
			if a.from < b.to && b.from < a.to {
				t.Fatal(what, "an answer lies over something else")
			}
		}
	}
}

// given is what the calls ask, in memory of its own, with marks in the room behind each list.
type given struct {
	scope   api.Scope
	script  []api.Event
	one     []api.Event // with Before ahead, for Alike
	workers int
}

// own: events in memory of their own.
func own(l []api.Event) []api.Event {
	mark := api.Event{Kind: api.EventInject, Node: 1, Bytes: []byte("mark"), Op: write(1, "mark")}
	l = room(l, mark, mark)
	for i := range l {
		l[i].Bytes = room(l[i].Bytes, 'm', 'n')
	}
	return l
}

func someGiven(t *testing.T, k uint64) *given {
	t.Helper()
	r := seeded(k)
	p := someScope(r)
	p.Depth = 2
	for range 20 { // any will do whose search does not take long
		if n := len(moves(t, p, nil)); n < 25 {
			break
		}
		p = someScope(r)
		p.Depth = 1
	}
	if k%3 == 0 {
		p.Before = append(p.Before, inject(1, 2, forged(t, p.Setup.Config, entry(15, 9, opA))))
	}
	if k%7 == 0 {
		p = spoiltScope(r, p)
	}
	g := &given{workers: 1 + r.IntN(4)}
	walk, _ := explore.Moves(p, nil)
	if len(walk) > 0 {
		walk = walk[r.IntN(len(walk)):][:1]
	}
	g.scope = p
	g.scope.Setup.Clients = room(p.Setup.Clients, api.ClientSetup{Number: 77}, api.ClientSetup{Number: -5})
	g.scope.Before = own(p.Before)
	g.script = own(walk)
	g.one = own(scriptOf(p.Before, walk))
	g.scope.Ops = room(p.Ops, write(-1, "mark"), api.Op{})
	return g
}

// calls: all of them.
func (g *given) calls() map[string]func() any {
	return map[string]func() any{
		"Moves":  func() any { l, e := explore.Moves(g.scope, g.script); return []any{l, e} },
		"Alike":  func() any { is, e := explore.Alike(g.scope.Setup, g.one, g.scope.Before); return []any{is, e} },
		"itself": func() any { is, e := explore.Alike(g.scope.Setup, g.one, g.one); return []any{is, e} },
		"Search": func() any { f, e := explore.Search(g.scope, g.workers); return []any{f, e} },
	}
}

func (g *given) dumped() string { return dumped(true, g.scope, g.script, g.one) }

func TestWhoseMemory(t *testing.T) {
	t.Parallel()
	found := 0
	for k := range uint64(60) {
		g := someGiven(t, 21000+k)
		before := g.dumped()
		for what, call := range g.calls() {
			got := call()
			want, again := dumped(false, got), call()
			expectApart(t, what, got, g.scope, g.script, g.one, again)
			spoilAll(again)
			if dumped(false, got) != want || g.dumped() != before || dumped(false, call()) != want {
				t.Fatal(what, "what is spoilt of one answer is seen elsewhere")
			}
			if what == "Search" && strings.Contains(want, "true") {
				found++
			}
		}
		if g.dumped() != before {
			t.Fatal("what was given is changed")
		}
	}
	if found < 10 {
		t.Error("too little is found:", found)
	}
}

// An answer does not turn with what was given, once that is written over.
func TestNothingIsKept(t *testing.T) {
	t.Parallel()
	for k := range uint64(30) {
		for what := range (&given{}).calls() {
			g := someGiven(t, 22000+k)
			got := g.calls()[what]()
			want := dumped(false, got)
			other := someGiven(t, 22500+k)
			spoilAll(g.scope, g.script, g.one)
			other.calls()[what]()
			if dumped(false, got) != want {
				t.Fatal(what, "has turned with what was given")
			}
			// What is asked with it now is asked anew.
			spoilt := dumped(false, g.calls()[what]())
			if fresh := dumped(false, g.calls()[what]()); fresh != spoilt {
				t.Fatal(what, "is not the same again")
			}
		}
	}
}

// A scope that is written over, and written back, is asked anew each time.
func TestWrittenOver(t *testing.T) {
	p := api.Scope{Setup: setupOf(three, 0), Ops: []api.Op{opA}, Before: []api.Event{inject(0, 1, []byte("x"))}, Depth: 2}
	want := searched(t, p, 3)
	p.Ops[0] = write(-1, "")
	expectNoFinding(t, p, 3, api.ErrScope)
	p.Ops[0] = opA
	p.Before[0].Node = 9
	expectNoFinding(t, p, 3, api.ErrScope)
	p.Before[0] = inject(1, 2, forged(t, three, entry(0, 1, opA)))
	if f := searched(t, p, 3); !f.Found || f.Scripts != 3 {
		t.Fatal(f)
	}
	// A byte of the lie is another one: it does not decode.
	p.Before[0].Bytes[12] ^= 1
	if f := searched(t, p, 3); f.Found || f.Scripts != want.Scripts || f.States != want.States {
		t.Fatal(f, want)
	}
	p.Setup.Clients[0].Number = greatest
	if f := searched(t, p, 3); f.Scripts != 2 {
		t.Fatal(f)
	}
	p.Setup.Clients[0].Number = -1
	expectNoFinding(t, p, 3, api.ErrScope)
	p.Setup.Clients[0].Number = 0
	p.Before[0] = inject(0, 1, []byte("x"))
	if f := searched(t, p, 3); !sameFinding(f, want) {
		t.Fatal(f, want)
	}
}

// nil and empty lists are the same.
func TestNoneAndEmpty(t *testing.T) {
	a := api.Scope{Setup: api.Setup{Config: three}, Depth: 1, Ticks: 1}
	b := a
	b.Setup.Clients, b.Before, b.Ops = []api.ClientSetup{}, []api.Event{}, []api.Op{}
	if !sameEvents(moves(t, a, nil), moves(t, b, []api.Event{})) || !sameFinding(searched(t, a, 1), searched(t, b, 1)) {
		t.Fatal("they are unlike")
	}
	if is, e := explore.Alike(b.Setup, []api.Event{}, nil); !is || e != api.OK {
		t.Fatal(is, e)
	}
	lie := []api.Event{inject(0, 1, nil)}
	empty := []api.Event{inject(0, 1, []byte{})}
	expectAlike(t, a.Setup, lie, empty, true)
}

// What lies behind a list's end has no part.
func TestBehindTheEnd(t *testing.T) {
	p := api.Scope{Setup: setupOf(three, 0, 0), Depth: 2, Ticks: 1}
	want, l := searched(t, p, 2), moves(t, p, []api.Event{tick(1)})
	p.Setup.Clients = room(p.Setup.Clients, api.ClientSetup{Number: -9})
	p.Before = room([]api.Event{}, crash(1), tick(99))
	p.Ops = room([]api.Op{}, opA, api.Op{})
	if !sameFinding(searched(t, p, 2), want) || !sameEvents(moves(t, p, room([]api.Event{tick(1)}, crash(0))), l) {
		t.Fatal("what lies behind the end is seen")
	}
	expectAlike(t, p.Setup, room([]api.Event{tick(1)}, crash(0)), []api.Event{tick(1)}, true)
}

// The same again, whatever was asked between; and many at one time.
func TestSideBySide(t *testing.T) {
	t.Parallel()
	for k := range uint64(3) {
		g := someGiven(t, 23001+k)
		want := make(map[string]string)
		for what, call := range g.calls() {
			want[what] = dumped(false, call())
		}
		var wait sync.WaitGroup
		for range 6 {
			wait.Go(func() {
				for range 3 {
					for what, call := range g.calls() {
						if dumped(false, call()) != want[what] {
							t.Error(what, "answers otherwise")
						}
					}
				}
			})
		}
		wait.Wait()
	}
}
