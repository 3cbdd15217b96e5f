package nemesis_test

import (
	"bytes"
	"math"
	"math/rand/v2"
	"reflect"
	"slices"
	"strings"
	"testing"

	"amnesia/api"
	"amnesia/cluster"
	"amnesia/nemesis"
)

const greatest = math.MaxInt

// The group of most tests: three replicas; and two clients.
var three = api.Config{F: 1, Room: 20, Patience: 6}

const (
	group = "group 1 20 6\n"
	head  = group + "client 0\nclient 5\n"
)

// Groups of each size, and how many replicas they have.
var groups = []struct {
	line  string
	nodes int
}{{"group 1 20 6\n", 3}, {"group 2 20 6 unguarded\n", 5}, {"group 3 20 6\n", 7}}

// setupOf: a group with clients whose last requests have these numbers.
func setupOf(c api.Config, numbers ...int) api.Setup {
	s := api.Setup{Config: c}
	for _, n := range numbers {
		s.Clients = append(s.Clients, api.ClientSetup{Number: n})
	}
	return s
}

func lines(l ...string) string { return strings.Join(l, "\n") + "\n" }

func write(slot int, value string) api.Op {
	return api.Op{Kind: api.OpWrite, Slot: slot, Value: value}
}

func add(value string) api.Op { return api.Op{Kind: api.OpAppend, Value: value} }

func read(slot int) api.Op { return api.Op{Kind: api.OpRead, Slot: slot} }

func submit(client int, op api.Op) api.Event {
	return api.Event{Kind: api.EventSubmit, Client: client, Op: op}
}

func query(client, node int, op api.Op) api.Event {
	return api.Event{Kind: api.EventQuery, Client: client, Node: node, Op: op}
}

func retry(client int) api.Event { return api.Event{Kind: api.EventRetry, Client: client} }

func deliver(index int) api.Event { return api.Event{Kind: api.EventDeliver, Index: index} }

func drop(index int) api.Event { return api.Event{Kind: api.EventDrop, Index: index} }

func twice(index int) api.Event { return api.Event{Kind: api.EventCopy, Index: index} }

func spoil(index, at, mask int) api.Event {
	return api.Event{Kind: api.EventSpoil, Index: index, At: at, Count: mask}
}

func tick(node int) api.Event { return api.Event{Kind: api.EventTick, Node: node} }

func crash(node int) api.Event { return api.Event{Kind: api.EventCrash, Node: node} }

// restart: with the draw {0, k}.
func restart(node int, k uint64) api.Event {
	return api.Event{Kind: api.EventRestart, Node: node, Draw: api.Draw{Lo: k}}
}

func round(count int) api.Event { return api.Event{Kind: api.EventRound, Count: count} }

// repeated: these events so many times, one behind the other.
func repeated(times int, l ...api.Event) []api.Event { return slices.Repeat(l, times) }

func sameEvent(a, b api.Event) bool {
	if !bytes.Equal(a.Bytes, b.Bytes) {
		return false
	}
	a.Bytes, b.Bytes = nil, nil
	return reflect.DeepEqual(a, b)
}

func sameEvents(a, b []api.Event) bool { return slices.EqualFunc(a, b, sameEvent) }

func sameSetup(a, b api.Setup) bool {
	return a.Config == b.Config && slices.Equal(a.Clients, b.Clients)
}

// short: a text as far as it is good for a message.
func short(text string) string {
	if len(text) > 1500 {
		return text[:1500] + " .."
	}
	return text
}

func expectRight(t *testing.T, plan string) {
	t.Helper()
	if line, e := nemesis.Check(plan); line != 0 || e != api.OK {
		t.Fatalf("%q: Check: %d, %d", short(plan), line, e)
	}
}

// expectWrong: all three calls refuse the plan, at that line, and answer nothing beside.
func expectWrong(t *testing.T, plan string, line int, want api.Errno) {
	t.Helper()
	if at, e := nemesis.Check(plan); at != line || e != want {
		t.Fatalf("%q: Check: %d, %d, want %d, %d", short(plan), at, e, line, want)
	}
	expectNoScript(t, plan, 7, line, want)
	for _, seeds := range [][]uint64{nil, {7}, {1, 2, 3}} {
		expectNoTrials(t, plan, seeds, 2, line, want)
	}
}

func expectNoScript(t *testing.T, plan string, seed uint64, line int, want api.Errno) {
	t.Helper()
	if s, l, at, e := nemesis.Compile(plan, seed); at != line || e != want || !sameSetup(s, api.Setup{}) || len(l) != 0 {
		t.Fatalf("%q: Compile: %+v, %d events, %d, %d, want %d, %d", short(plan), s, len(l), at, e, line, want)
	}
}

func expectNoTrials(t *testing.T, plan string, seeds []uint64, workers, line int, want api.Errno) {
	t.Helper()
	if l, at, e := nemesis.Survey(plan, seeds, workers); at != line || e != want || len(l) != 0 {
		t.Fatalf("%q: Survey of %d seeds by %d: %+v, %d, %d, want %d, %d", short(plan), len(seeds), workers, l, at, e, line, want)
	}
}

func compiled(t *testing.T, plan string, seed uint64) (api.Setup, []api.Event) {
	t.Helper()
	s, l, line, e := nemesis.Compile(plan, seed)
	if line != 0 || e != api.OK {
		t.Fatalf("%q, %d: Compile: %d, %d", short(plan), seed, line, e)
	}
	return s, l
}

// expectScript: that is the plan's script with that seed, and a cluster plays it to its end.
func expectScript(t *testing.T, plan string, seed uint64, want ...api.Event) []api.Seen {
	t.Helper()
	s, l := compiled(t, plan, seed)
	if !sameEvents(l, want) {
		t.Fatalf("%q, %d:\n%+v\nwant\n%+v", short(plan), seed, l, want)
	}
	return ran(t, s, l)
}

// ran: what is seen of a script, which is played to its end.
func ran(t *testing.T, s api.Setup, script []api.Event) []api.Seen {
	t.Helper()
	rows, n, e := cluster.Run(s, script)
	if e != api.OK || n != len(script) {
		t.Fatalf("event %d of %d is refused: %d", n, len(script), e)
	}
	return rows
}

// played: a cluster behind a plan's script.
func played(t *testing.T, plan string, seed uint64) *cluster.Cluster {
	t.Helper()
	s, l := compiled(t, plan, seed)
	u, e := cluster.New(s)
	if e != api.OK {
		t.Fatal(e)
	}
	for i, event := range l {
		if _, e := u.Do(event); e != api.OK {
			t.Fatalf("event %d: %d", i, e)
		}
	}
	return u
}

// kindsOf: how many events of each kind a script has.
func kindsOf(script []api.Event) map[api.EventKind]int {
	kinds := make(map[api.EventKind]int)
	for _, e := range script {
		kinds[e.Kind]++
	}
	return kinds
}

// wordsOf: the words of a seed one by one, modulo m, by the rule of chapter 2.
func wordsOf(seed uint64) func(m int) int {
	state := seed
	return func(m int) int {
		state += 0x9e3779b97f4a7c15
		z := state
		z = (z ^ (z >> 30)) * 0xbf58476d1ce4e5b9
		z = (z ^ (z >> 27)) * 0x94d049bb133111eb
		return int((z ^ (z >> 31)) % uint64(m))
	}
}

func seeded(seed uint64) *rand.Rand { return rand.New(rand.NewPCG(seed, 23)) }

func pick[T any](r *rand.Rand, l ...T) T { return l[r.IntN(len(l))] }

// upTo: the seeds below n.
func upTo(n int) []uint64 {
	l := make([]uint64, n)
	for i := range l {
		l[i] = uint64(i)
	}
	return l
}

// expectEnough: what was met in all runs of a test is not too little.
func expectEnough[K comparable](t *testing.T, met, least map[K]int) {
	t.Helper()
	for what, n := range least {
		if met[what] < n {
			t.Error("too few:", what, met)
		}
	}
}
