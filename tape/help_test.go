package tape_test

import (
	"bytes"
	"math"
	"math/rand/v2"
	"slices"
	"strings"
	"testing"

	"amnesia/api"
	"amnesia/tape"
)

const (
	least    = math.MinInt
	greatest = math.MaxInt
)

// The chapter's group, and greater ones.
var (
	three = api.Config{F: 1, Room: 4, Patience: 6}
	five  = api.Config{F: 2, Room: 40, Patience: 9}
	seven = api.Config{F: 3, Room: 256, Patience: 100, Unguarded: true}
)

// chapter: the setup of the chapter's first example.
var chapter = setupOf(three, 0)

// setupOf: a group with clients whose last requests have these numbers.
func setupOf(c api.Config, numbers ...int) api.Setup {
	s := api.Setup{Config: c}
	for _, n := range numbers {
		s.Clients = append(s.Clients, api.ClientSetup{Number: n})
	}
	return s
}

// Setups that may be, at the ends of all their numbers.
func someSetups() []api.Setup {
	return []api.Setup{
		chapter, setupOf(three), setupOf(five, 1, greatest, 255, 256), setupOf(seven, slices.Repeat([]int{greatest}, 16)...),
		setupOf(api.Config{F: 1, Room: 1, Patience: 6, Unguarded: true}, slices.Repeat([]int{0}, 16)...),
		setupOf(api.Config{F: 3, Room: 255, Patience: 99}, 1<<32),
	}
}

// Configurations that may not be, each for one reason.
func wrongConfigs() []api.Config {
	return []api.Config{
		{}, {F: 0, Room: 4, Patience: 6}, {F: 4, Room: 4, Patience: 6}, {F: -1, Room: 4, Patience: 6}, {F: 1, Room: 0, Patience: 6}, {F: 1, Room: 257, Patience: 6}, {F: 1, Room: -4, Patience: 6},
		{F: 1, Room: 4, Patience: 5}, {F: 1, Room: 4, Patience: 101, Unguarded: true}, {F: 1, Room: 4, Patience: -6}, {F: least, Room: least, Patience: least}, {F: greatest, Room: greatest, Patience: greatest},
	}
}

// order: the fields in the chapter's order, a letter each: Node, Client, Index, At, Count (k), Cut (u), Draw, Op, Bytes.
const order = "nciakudob"

// usedBy: what chapter 15's table says that each kind uses.
var usedBy = map[api.EventKind]string{
	api.EventSubmit: "co", api.EventRetry: "c", api.EventDeliver: "iu", api.EventDrop: "i", api.EventCopy: "i", api.EventSpoil: "iak",
	api.EventInject: "nab", api.EventTick: "nu", api.EventCrash: "n", api.EventRestart: "ndu", api.EventRound: "k", api.EventQuery: "cno",
}

func uses(k api.EventKind, field rune) bool { return strings.ContainsRune(usedBy[k], field) }

// eachKind: the twelve, rising.
func eachKind() []api.EventKind {
	var l []api.EventKind
	for k := range 12 {
		l = append(l, api.EventKind(k+1))
	}
	return l
}

// wrongKinds: numbers that are none.
var wrongKinds = []api.EventKind{0, 13, 14, 255, 256, 257, 1<<32 + 1, greatest, -1, -12, -255, least, least + 1}

// numbersOf: where the plain numbers lie, by their letters; the operation's too.
func numbersOf(e *api.Event) map[rune][]*int {
	return map[rune][]*int{'n': {&e.Node}, 'c': {&e.Client}, 'i': {&e.Index}, 'a': {&e.At}, 'k': {&e.Count}, 'u': {&e.Cut}, 'o': {&e.Op.Kind, &e.Op.Slot}}
}

// plain: an event with what its kind does not use being zero.
func plain(e api.Event) api.Event {
	for field, numbers := range numbersOf(&e) {
		for _, n := range numbers {
			if !uses(e.Kind, field) {
				*n = 0
			}
		}
	}
	if !uses(e.Kind, 'd') {
		e.Draw = api.Draw{}
	}
	if !uses(e.Kind, 'o') {
		e.Op.Value = ""
	}
	if !uses(e.Kind, 'b') {
		e.Bytes = nil
	}
	return e
}

// full: an event of that kind with something in each field.
func full(k api.EventKind) api.Event {
	return api.Event{Kind: k, Node: 2, Client: 3, Index: 256, At: 5, Count: 6, Cut: 70000, Draw: api.Draw{Hi: 8, Lo: math.MaxUint64},
		Op: api.Op{Kind: 1, Slot: 1023, Value: "value"}, Bytes: []byte("some bytes")}
}

func drop(index int) api.Event { return api.Event{Kind: api.EventDrop, Index: index} }

// inject: an event with so many bytes; of its own it has eight or less beside them.
func inject(n int) api.Event {
	return api.Event{Kind: api.EventInject, Node: 1, At: 2, Bytes: bytes.Repeat([]byte{byte(n), 0, 255}, n/3+1)[:n]}
}

// drops: so many events of few bytes.
func drops(n int) []api.Event {
	var l []api.Event
	for i := range n {
		l = append(l, drop(i))
	}
	return l
}

// mixed: so many events of all kinds.
func mixed(n int) []api.Event {
	var l []api.Event
	for i := range n {
		e := full(api.EventKind(i%12 + 1))
		e.Node, e.Index, e.Client = i, i*i, i*i*i
		l = append(l, plain(e))
	}
	return l
}

func sameEvent(a, b api.Event) bool {
	return a.Kind == b.Kind && a.Node == b.Node && a.Client == b.Client && a.Index == b.Index && a.At == b.At && a.Count == b.Count && a.Cut == b.Cut &&
		a.Draw == b.Draw && a.Op == b.Op && bytes.Equal(a.Bytes, b.Bytes)
}

func sameEvents(a, b []api.Event) bool { return slices.EqualFunc(a, b, sameEvent) }

func sameSetup(a, b api.Setup) bool {
	return a.Config == b.Config && slices.Equal(a.Clients, b.Clients)
}

// taped: a tape of these events.
func taped(t *testing.T, s api.Setup, events ...api.Event) *tape.Tape {
	t.Helper()
	x, e := tape.New(s)
	if e != api.OK || x == nil {
		t.Fatal(e)
	}
	for i, event := range events {
		if e := x.Add(event); e != api.OK {
			t.Fatalf("event %d: %d", i, e)
		}
	}
	return x
}

// file: a file of these events, as the program writes it.
func file(t *testing.T, s api.Setup, events ...api.Event) []byte {
	t.Helper()
	return taped(t, s, events...).Bytes()
}

// expectRead: Read takes the file.
func expectRead(t *testing.T, b []byte, s api.Setup, events ...api.Event) {
	t.Helper()
	gotS, got, e, at := tape.Read(b)
	if e != api.OK || at != 0 || !sameSetup(gotS, s) || !sameEvents(got, events) {
		t.Fatalf("Read: %d at %d, %d events, %+v; want %d events, %+v", e, at, len(got), gotS, len(events), s)
	}
}

// expectWrong: Read refuses the file there, and answers nothing beside.
func expectWrong(t *testing.T, what string, b []byte, want api.Errno, place int) {
	t.Helper()
	s, l, e, at := tape.Read(b)
	if e != want || at != place || !sameSetup(s, api.Setup{}) || len(l) != 0 {
		t.Fatalf("%s: Read: %d at %d, want %d at %d; %d events, %+v", what, e, at, want, place, len(l), s)
	}
}

// expectSaved: Salvage saves so many bytes, with that setup and these events.
func expectSaved(t *testing.T, what string, b []byte, n int, s api.Setup, events ...api.Event) {
	t.Helper()
	gotS, got, size := tape.Salvage(b)
	if size != n || !sameSetup(gotS, s) || !sameEvents(got, events) {
		t.Fatalf("%s: Salvage: %d bytes, %d events, %+v; want %d, %d, %+v", what, size, len(got), gotS, n, len(events), s)
	}
}

func expectIndex(t *testing.T, what string, b []byte, want ...int) {
	t.Helper()
	if l, e := tape.Index(b); e != api.OK || !slices.Equal(l, want) {
		t.Fatalf("%s: Index: %v, %d, want %v", what, l, e, want)
	}
}

func expectNoIndex(t *testing.T, what string, b []byte, want api.Errno) {
	t.Helper()
	if l, e := tape.Index(b); e != want || len(l) != 0 {
		t.Fatalf("%s: Index: %v, %d, want %d", what, l, e, want)
	}
	for _, x := range [][2]int{{0, 0}, {0, 1}, {-1, 0}, {0, -1}, {greatest, greatest}} {
		expectNotSought(t, what, b, x[0], x[1], want)
	}
}

func expectSought(t *testing.T, what string, b []byte, from, count int, want ...api.Event) {
	t.Helper()
	if l, e := tape.Seek(b, from, count); e != api.OK || !sameEvents(l, want) {
		t.Fatalf("%s: Seek(%d, %d): %d events, %d, want %d", what, from, count, len(l), e, len(want))
	}
}

func expectNotSought(t *testing.T, what string, b []byte, from, count int, want api.Errno) {
	t.Helper()
	if l, e := tape.Seek(b, from, count); e != want || len(l) != 0 {
		t.Fatalf("%s: Seek(%d, %d): %d events, %d, want %d", what, from, count, len(l), e, want)
	}
}

func seeded(seed uint64) *rand.Rand { return rand.New(rand.NewPCG(seed, 22)) }

func pick[T any](r *rand.Rand, l ...T) T { return l[r.IntN(len(l))] }

// expectEnough: what was met in all runs of a test is not too little.
func expectEnough[K comparable](t *testing.T, met, least map[K]int) {
	t.Helper()
	for what, n := range least {
		if met[what] < n {
			t.Error("too few:", what, met)
		}
	}
}
