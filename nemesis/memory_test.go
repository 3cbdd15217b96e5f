package nemesis_test

import (
	"reflect"
	"slices"
	"strconv"
	"strings"
	"sync"
	"testing"
	"unsafe"

	"amnesia/api"
	"amnesia/nemesis"
)

// P23.6, which is P2 of DOC.md, and P3: whose memory is whose.

// room: a list with marks in the room behind it.
func room[T any](l []T, marks ...T) []T {
	return append(append(make([]T, 0, len(l)+len(marks)), l...), marks...)[:len(l)]
}

// loose: a text in memory that can be written over, and that memory.
func loose(text string) (string, []byte) {
	b := append([]byte(text), 0)[:len(text)]
	return unsafe.String(unsafe.SliceData(b), len(b)), b
}

// eachList: every list that a value reaches, those that lie in a list's spare room too.
func eachList(v reflect.Value, visit func(reflect.Value)) {
	switch v.Kind() {
	case reflect.Struct:
		for i := range v.NumField() {
			eachList(v.Field(i), visit)
		}
	case reflect.Slice:
		visit(v)
		whole := v.Slice(0, v.Cap())
		for i := range whole.Len() {
			eachList(whole.Index(i), visit)
		}
	case reflect.Interface:
		eachList(v.Elem(), visit)
	}
}

// dump: all that a value reaches as text; spare room too, if it is asked for.
func dump(v reflect.Value, spare bool, b *strings.Builder) {
	switch v.Kind() {
	case reflect.Struct:
		for i := range v.NumField() {
			dump(v.Field(i), spare, b)
		}
	case reflect.Slice:
		b.WriteString("[" + strconv.Itoa(v.Len()) + ":")
		if spare {
			v = v.Slice(0, v.Cap())
		}
		for i := range v.Len() {
			dump(v.Index(i), spare, b)
		}
		b.WriteString("]")
	case reflect.Interface:
		dump(v.Elem(), spare, b)
	case reflect.String:
		b.WriteString(strconv.Quote(v.String()))
	case reflect.Bool:
		b.WriteString(strconv.FormatBool(v.Bool()))
	case reflect.Uint64, reflect.Uint8:
		b.WriteString(strconv.FormatUint(v.Uint(), 10) + " ")
	default:
		b.WriteString(strconv.FormatInt(v.Int(), 10) + " ")
	}
}

func dumped(spare bool, things ...any) string {
	var b strings.Builder
	for _, thing := range things {
		dump(reflect.ValueOf(thing), spare, &b)
	}
	return b.String()
}

// spoilAll writes over all that a value's lists reach, their spare room too.
func spoilAll(things ...any) {
	for _, thing := range things {
		eachList(reflect.ValueOf(thing), func(list reflect.Value) {
			whole := list.Slice(0, list.Cap())
			for i := range whole.Len() {
				spoilPart(whole.Index(i))
			}
		})
	}
}

func spoilPart(v reflect.Value) {
	switch v.Kind() {
	case reflect.Struct:
		for i := range v.NumField() {
			spoilPart(v.Field(i))
		}
	case reflect.Int:
		v.SetInt(-99)
	case reflect.Uint64, reflect.Uint8:
		v.SetUint(v.Uint() ^ 0x55)
	case reflect.String:
		v.SetString("spoilt")
	}
}

// span is a piece of memory: of lists that have room for nothing there is none.
type span struct{ from, to uintptr }

func spans(things ...any) []span {
	var l []span
	for _, thing := range things {
		eachList(reflect.ValueOf(thing), func(list reflect.Value) {
			if list.Cap() > 0 {
				l = append(l, span{list.Pointer(), list.Pointer() + uintptr(list.Cap())*list.Type().Elem().Size()})
			}
		})
	}
	return l
}

// expectApart: no list of an answer lies over another one of it, nor over one of what was given.
func expectApart(t *testing.T, what string, answer any, given ...any) {
	t.Helper()
	mine, theirs := spans(answer), spans(given...)
	for i, a := range mine {
		for _, b := range append(theirs, mine[:i]...) {
			if a.from < b.to && b.from < a.to {
				t.Fatal(what, "an answer lies over something else")
			}
		}
	}
}

// given is what the calls ask, in memory of its own; and the plan's bytes.
type given struct {
	plan    string
	bytes   []byte
	seed    uint64
	seeds   []uint64
	workers int
}

func someGiven(k uint64) given {
	r := seeded(k)
	g := given{seed: r.Uint64(), workers: 1 + r.IntN(4)}
	for range r.IntN(4) {
		g.seeds = append(g.seeds, r.Uint64())
	}
	g.seeds = room(g.seeds, 99, 98, 97)
	plan := somePlan(r)
	if k%5 == 0 {
		plan = mangled(r, plan)
	}
	g.plan, g.bytes = loose(plan)
	return g
}

// calls: all of them.
func (g given) calls() map[string]func() any {
	return map[string]func() any{
		"Check":   func() any { line, e := nemesis.Check(g.plan); return []any{line, e} },
		"Compile": func() any { s, l, line, e := nemesis.Compile(g.plan, g.seed); return []any{s, l, line, e} },
		"Survey":  func() any { l, line, e := nemesis.Survey(g.plan, g.seeds, g.workers); return []any{l, line, e} },
	}
}

func (g given) dumped() string { return dumped(true, g.plan, g.seed, g.seeds) }

func TestWhoseMemory(t *testing.T) {
	t.Parallel()
	for k := range uint64(20) {
		g := someGiven(11000 + k)
		before := g.dumped()
		for what, call := range g.calls() {
			got := call()
			want, again := dumped(false, got), call()
			expectApart(t, what, got, g.seeds, again)
			spoilAll(again)
			if dumped(false, got) != want || g.dumped() != before || dumped(false, call()) != want {
				t.Fatal(what, "what is spoilt of one answer is seen elsewhere")
			}
		}
		if g.dumped() != before {
			t.Fatal("what was given is changed")
		}
	}
}

// An answer does not turn with what was given, once that is written over.
func TestNothingIsKept(t *testing.T) {
	t.Parallel()
	for k := range uint64(20) {
		for what := range (given{}).calls() {
			g := someGiven(12000 + k)
			got := g.calls()[what]()
			want := dumped(false, got)
			spoilAll(g.seeds, g.bytes)
			if dumped(false, got) != want {
				t.Fatal(what, "has turned with what was given")
			}
		}
	}
}

// Setups, clients and events that a caller writes over, and what it puts behind them, are not seen when the plan is compiled once more.
func TestWrittenOver(t *testing.T) {
	plan := "group 2 20 6\nclient 1\nclient 2\nclient 3\nload 8\nfault 10 10 10 10\nrun 3\ncrash 1\nrestart 1\ncalm 3\n"
	want := textOf(t, plan, 5)
	setup, _ := compiled(t, plan, 5)
	for range 5 {
		s, l := compiled(t, plan, 5)
		whole := l[:cap(l)]
		for i := range whole {
			whole[i] = api.Event{Kind: api.EventInject, Bytes: []byte("mark"), Op: write(9, "mark"), Node: 77}
		}
		clients := s.Clients[:cap(s.Clients)]
		for i := range clients {
			clients[i].Number = -1
		}
		s.Config = api.Config{}
		s2, l2 := compiled(t, plan, 5)
		if !sameSetup(s2, setup) || dumped(false, l2) != want || slices.ContainsFunc(l2[:cap(l2)], func(e api.Event) bool { return e.Node == 77 }) {
			t.Fatal("what was written over is seen")
		}
		_ = append(l2, whole...)
		_ = append(s2.Clients, clients...)
	}
}

// The lists of seeds stay as they are, what lies behind them too; trials are the caller's.
func TestSeedsStay(t *testing.T) {
	for _, n := range []int{0, 1, 5, 64} {
		seeds := room(upTo(n), 1001, 1002, 1003)
		for _, workers := range []int{1, 3, 16} {
			first := surveyed(t, group+"run 2\n", seeds, workers)
			want := slices.Clone(first)
			second := surveyed(t, group+"run 2\n", seeds, workers)
			whole := second[:cap(second)]
			for i := range whole {
				whole[i] = api.Trial{Seed: 1, Events: -1, Fault: 5}
			}
			if !slices.Equal(first, want) || !slices.Equal(surveyed(t, group+"run 2\n", seeds, workers), want) {
				t.Fatal(n, workers, "two answers share their memory")
			}
			if !slices.Equal(seeds[:n+3], append(upTo(n), 1001, 1002, 1003)) {
				t.Fatal("the list of seeds is changed:", seeds[:n+3])
			}
		}
	}
	// More seeds behind the end of a list have no part.
	if l := surveyed(t, group+"run 2\n", upTo(100)[:64], 2); len(l) != 64 {
		t.Fatal(l)
	}
	if l := surveyed(t, group+"run 2\n", upTo(5)[:0], 2); len(l) != 0 {
		t.Fatal(l)
	}
}

// The same again, whatever was asked between; and many at one time.
func TestSideBySide(t *testing.T) {
	t.Parallel()
	for k := range uint64(3) {
		g := someGiven(13001 + k)
		want := make(map[string]string)
		for what, call := range g.calls() {
			want[what] = dumped(false, call())
		}
		var wait sync.WaitGroup
		for range 6 {
			wait.Go(func() {
				for range 2 {
					for what, call := range g.calls() {
						if dumped(false, call()) != want[what] {
							t.Error(what, "answers otherwise")
						}
					}
				}
			})
		}
		wait.Wait()
	}
}
