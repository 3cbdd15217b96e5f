package tape_test

import (
	"reflect"
	"slices"
	"strconv"
	"strings"
	"sync"
	"testing"
	"unsafe"

	"amnesia/api"
	"amnesia/tape"
)

// P2 and P3 of DOC.md: whose memory is whose.

// room: a list with marks in the room behind it.
func room[T any](l []T, marks ...T) []T {
	return append(append(make([]T, 0, len(l)+len(marks)), l...), marks...)[:len(l)]
}

// roomy: bytes with marks in the room behind them.
func roomy(b []byte) []byte { return room(b, []byte("marks behind the end")...) }

// loose: a text in memory that can be written over, and that memory.
func loose(text string) (string, []byte) {
	b := append([]byte(text), 0)[:len(text)]
	return unsafe.String(unsafe.SliceData(b), len(b)), b
}

// handed: an event in memory of its own, with marks behind its bytes; and the memory of its value.
func handed(e api.Event) (api.Event, []byte) {
	value, b := loose(e.Op.Value)
	e.Op.Value, e.Bytes = value, roomy(e.Bytes)
	return e, b
}

func handedSetup(s api.Setup) api.Setup {
	s.Clients = room(s.Clients, api.ClientSetup{Number: -7}, api.ClientSetup{Number: 77})
	return s
}

// eachList: every list that a value reaches, those that lie in a list's spare room too.
func eachList(v reflect.Value, visit func(reflect.Value)) {
	switch v.Kind() {
	case reflect.Struct:
		for i := range v.NumField() {
			eachList(v.Field(i), visit)
		}
	case reflect.Slice:
		visit(v)
		whole := v.Slice(0, v.Cap())
		for i := range whole.Len() {
			eachList(whole.Index(i), visit)
		}
	case reflect.Interface:
		eachList(v.Elem(), visit)
	}
}

// dump: all that a value reaches as text; spare room too, if it is asked for.
func dump(v reflect.Value, spare bool, b *strings.Builder) {
	switch v.Kind() {
	case reflect.Struct:
		for i := range v.NumField() {
			dump(v.Field(i), spare, b)
		}
	case reflect.Slice:
		b.WriteString("[" + strconv.Itoa(v.Len()) + ":")
		if spare {
			v = v.Slice(0, v.Cap())
		}
		for i := range v.Len() {
			dump(v.Index(i), spare, b)
		}
		b.WriteString("]")
	case reflect.Interface:
		dump(v.Elem(), spare, b)
	case reflect.String:
		b.WriteString(strconv.Quote(v.String()))
	case reflect.Bool:
		b.WriteString(strconv.FormatBool(v.Bool()))
	case reflect.Uint64, reflect.Uint8:
		b.WriteString(strconv.FormatUint(v.Uint(), 10) + " ")
	default:
		b.WriteString(strconv.FormatInt(v.Int(), 10) + " ")
	}
}

func dumped(spare bool, things ...any) string {
	var b strings.Builder
	for _, thing := range things {
		dump(reflect.ValueOf(thing), spare, &b)
	}
	return b.String()
}

// spoil writes over all that a value's lists reach, their spare room too.
func spoil(things ...any) {
	for _, thing := range things {
		eachList(reflect.ValueOf(thing), func(list reflect.Value) {
			whole := list.Slice(0, list.Cap())
			for i := range whole.Len() {
				spoilPart(whole.Index(i))
			}
		})
	}
}

func spoilPart(v reflect.Value) {
	switch v.Kind() {
	case reflect.Struct:
		for i := range v.NumField() {
			spoilPart(v.Field(i))
		}
	case reflect.Int:
		v.SetInt(-99)
	case reflect.Uint64, reflect.Uint8:
		v.SetUint(v.Uint() ^ 0x55)
	case reflect.String:
		v.SetString("spoilt")
	}
}

// span is a piece of memory: of lists that have room for nothing there is none.
type span struct{ from, to uintptr }

func spans(things ...any) []span {
	var l []span
	for _, thing := range things {
		eachList(reflect.ValueOf(thing), func(list reflect.Value) {
			if list.Cap() > 0 {
				l = append(l, span{list.Pointer(), list.Pointer() + uintptr(list.Cap())*list.Type().Elem().Size()})
			}
		})
	}
	return l
}

// expectApart: no list of an answer lies over another one of it, nor over one of what was given.
func expectApart(t *testing.T, what string, answer any, given ...any) {
	t.Helper()
	mine, theirs := spans(answer), spans(given...)
	for i, a := range mine {
		for _, b := range append(theirs, mine[:i]...) {
			if a.from < b.to && b.from < a.to {
				t.Fatal(what, "an answer lies over something else")
			}
		}
	}
}

// everyCall: all plain calls, of these; New and Bytes of a tape with that event.
func everyCall(s api.Setup, e api.Event, event, file []byte) map[string]func() any {
	return map[string]func() any{
		"PutEvent": func() any { b, e := tape.PutEvent(e); return []any{b, e} },
		"GetEvent": func() any { x, e := tape.GetEvent(event); return []any{x, e} },
		"Bytes": func() any {
			x, _ := tape.New(s)
			x.Add(e)
			return []any{x.Len(), x.Bytes()}
		},
		"Read":    func() any { s, l, e, at := tape.Read(file); return []any{s, l, e, at} },
		"Salvage": func() any { s, l, n := tape.Salvage(file); return []any{s, l, n} },
		"Index":   func() any { l, e := tape.Index(file); return []any{l, e} },
		"Seek":    func() any { l, e := tape.Seek(file, 1, 40); return []any{l, e} },
	}
}

// given is what everyCall asks, in memory of its own, and what is behind its value.
type given struct {
	s     api.Setup
	e     api.Event
	event []byte
	file  []byte
	value []byte
}

func someGiven(t *testing.T, seed uint64) given {
	t.Helper()
	r := seeded(seed)
	s := pick(r, someSetups()...)
	events := append(mixed(41+r.IntN(40)), goodEvents(r, r.IntN(10))...)
	e, value := handed(full(api.EventKind(1 + r.IntN(12))))
	b := roomy(file(t, s, events...))
	switch r.IntN(4) {
	case 0:
		b = b[:r.IntN(len(b))] // the rest lies in the room behind it
	case 1:
		b[r.IntN(len(b))] ^= 1
	}
	return given{handedSetup(s), e, roomy(put(t, goodEvent(r))), b, value}
}

func (g given) calls() map[string]func() any { return everyCall(g.s, g.e, g.event, g.file) }

func (g given) dumped() string { return dumped(true, g.s, g.e, g.event, g.file) }

func TestWhoseMemory(t *testing.T) {
	t.Parallel()
	for seed := range uint64(60) {
		g := someGiven(t, 3000+seed)
		before := g.dumped()
		for what, call := range g.calls() {
			got := call()
			want, again := dumped(false, got), call()
			expectApart(t, what, got, g.s, g.e, g.event, g.file, again)
			spoil(again)
			if dumped(false, got) != want || g.dumped() != before || dumped(false, call()) != want {
				t.Fatal(what, "what is spoilt of one answer is seen elsewhere")
			}
		}
		if g.dumped() != before {
			t.Fatal("what was given is changed")
		}
	}
}

// An answer does not turn with what was given, once that is written over.
func TestNothingIsKept(t *testing.T) {
	t.Parallel()
	for seed := range uint64(40) {
		for what := range everyCall(chapter, api.Event{}, nil, nil) {
			g := someGiven(t, 4000+seed)
			got := g.calls()[what]()
			want := dumped(false, got)
			spoil(g.s, g.e, g.event, g.file, g.value)
			if dumped(false, got) != want {
				t.Fatal(what, "has turned with what was given")
			}
		}
	}
}

// A tape keeps nothing that it was handed, and what it answers is the caller's.
func TestATapesMemory(t *testing.T) {
	t.Parallel()
	for seed := range uint64(20) {
		r := seeded(5000 + seed)
		s := handedSetup(pick(r, someSetups()...))
		kept := api.Setup{Config: s.Config, Clients: slices.Clone(s.Clients)}
		x, err := tape.New(s)
		if err != api.OK {
			t.Fatal(err)
		}
		spoil(s)
		var events []api.Event
		for range 100 {
			e := goodEvent(r)
			events = append(events, e)
			mine, value := handed(e)
			before := dumped(true, mine)
			if x.Add(mine) != api.OK || dumped(true, mine) != before {
				t.Fatal("Add changes what it is handed")
			}
			spoil(mine, value)
			if r.IntN(10) > 0 {
				continue
			}
			first, second := x.Bytes(), x.Bytes()
			expectApart(t, "Bytes", [][]byte{first, second})
			spoil(first)
			if !slices.Equal(second, modelFile(kept, events)) {
				t.Fatal("two answers share their memory, or the tape has turned with what it was handed")
			}
			spoil(append(second, "into the room behind it"...))
		}
		expectTaped(t, x, kept, events...)
	}
}

// Two tapes written in turn share nothing.
func TestTwoTapes(t *testing.T) {
	t.Parallel()
	for seed := range uint64(20) {
		r := seeded(6000 + seed)
		setups := [2]api.Setup{pick(r, someSetups()...), pick(r, someSetups()...)}
		both := [2]*tape.Tape{taped(t, setups[0]), taped(t, setups[1])}
		var events [2][]api.Event
		if both[0] == both[1] {
			t.Fatal("New answers one twice")
		}
		for range 150 {
			i, e := r.IntN(2), goodEvent(r)
			events[i] = append(events[i], e)
			if both[i].Add(e) != api.OK {
				t.Fatal(e)
			}
			if r.IntN(20) == 0 {
				j := r.IntN(2)
				expectTaped(t, both[j], setups[j], events[j]...)
			}
		}
		for i := range both {
			expectTaped(t, both[i], setups[i], events[i]...)
		}
	}
}

// P3: nil and empty lists are the same, and what lies behind a list's end has no part.
func TestNilAndEmptyAndRoom(t *testing.T) {
	t.Parallel()
	whole := file(t, setupOf(three), drops(40)...)
	for _, clients := range [][]api.ClientSetup{nil, {}, room([]api.ClientSetup{}, api.ClientSetup{Number: 5})} {
		x := taped(t, api.Setup{Config: three, Clients: clients}, drops(40)...)
		if !slices.Equal(x.Bytes(), whole) {
			t.Fatal("a list of no clients is told from another")
		}
	}
	for _, b := range [][]byte{nil, {}, roomy(nil)} {
		e := api.Event{Kind: api.EventInject, Bytes: b}
		expectPut(t, e, []byte{1, 7, 0, 0, 0})
		expectNotGot(t, "no bytes", b, api.ErrShort)
		expectBroken(t, "no bytes", b, api.ErrCut, 0, api.Setup{})
		expectNoIndex(t, "no bytes", b, api.ErrCut)
	}
	behind := room([]byte{}, whole...)
	expectBroken(t, "the file is behind the end", behind, api.ErrCut, 0, api.Setup{})
	expectNoIndex(t, "the file is behind the end", behind, api.ErrCut)
	expectRead(t, roomy(whole), setupOf(three), drops(40)...)
	b := put(t, full(api.EventInject))
	for n := range b {
		expectNotGot(t, "the rest is behind the end", b[:n], api.ErrShort)
	}
	for n := range whole { // the rest is behind the end
		expectModel(t, "cut off", whole[:n])
		seeking(t, "cut off", whole[:n], [2]int{0, 1})
	}
}

// The same again, whatever was asked between; and many at one time.
func TestSideBySide(t *testing.T) {
	g := someGiven(t, 7000)
	want := make(map[string]string)
	for what, call := range g.calls() {
		want[what] = dumped(false, call())
	}
	x := taped(t, chapter, mixed(50)...)
	told := x.Bytes()
	var wait sync.WaitGroup
	for range 8 {
		wait.Go(func() {
			for range 10 {
				for what, call := range g.calls() {
					if dumped(false, call()) != want[what] {
						t.Error(what, "answers otherwise")
					}
				}
				if x.Len() != 50 || !slices.Equal(x.Bytes(), told) {
					t.Error("a tape answers otherwise")
				}
			}
		})
	}
	wait.Wait()
}
