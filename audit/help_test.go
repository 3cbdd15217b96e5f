package audit_test

import (
	"math"
	"math/rand/v2"
	"slices"
	"strings"
	"testing"

	"amnesia/api"
	"amnesia/core"
	"amnesia/tree"
)

const (
	least    = math.MinInt
	greatest = math.MaxInt
)

// The chapter's group, and greater ones.
var (
	three = api.Config{F: 1, Room: 4, Patience: 6}
	five  = api.Config{F: 2, Room: 40, Patience: 9}
	seven = api.Config{F: 3, Room: 256, Patience: 100}
)

func nodesOf(c api.Config) int { return 2*c.F + 1 }

// Configurations that may not be, each for one reason.
func wrongConfigs() []api.Config {
	return []api.Config{
		{}, {F: 0, Room: 4, Patience: 6}, {F: 4, Room: 4, Patience: 6}, {F: 1, Room: 0, Patience: 6}, {F: 1, Room: 257, Patience: 6},
		{F: 1, Room: 4, Patience: 5}, {F: 1, Room: 4, Patience: 101, Unguarded: true}, {F: least, Room: least, Patience: least}, {F: greatest, Room: greatest, Patience: greatest},
	}
}

func write(slot int, value string) api.Op {
	return api.Op{Kind: api.OpWrite, Slot: slot, Value: value}
}

func add(value string) api.Op { return api.Op{Kind: api.OpAppend, Value: value} }

func read(slot int) api.Op { return api.Op{Kind: api.OpRead, Slot: slot} }

var count = api.Op{Kind: api.OpCount}

func res(code, slot int, value string) api.Result {
	return api.Result{Code: code, Slot: slot, Value: value}
}

func entry(client, number int, op api.Op) api.Entry {
	return api.Entry{Client: client, Number: number, Op: op}
}

// logOf: a log of so many entries that may be, with operations of every kind, many of which hang on those ahead of them.
func logOf(n int) []api.Entry {
	ops := []api.Op{write(7, "a"), write(7, "b"), add("c"), count, read(7), write(7, "a"), read(99), add(""), count}
	var l []api.Entry
	for i := range n {
		l = append(l, entry(i*5%16, i+1, ops[i%len(ops)]))
	}
	return l
}

// with: a log with another entry at a place.
func with(l []api.Entry, place int, e api.Entry) []api.Entry {
	l = slices.Clone(l)
	l[place-1] = e
	return l
}

// otherLog: one that may be, alike but for the operation at a place.
func otherLog(l []api.Entry, place int) []api.Entry {
	e := l[place-1]
	e.Op = write(1000, "other")
	return with(l, place, e)
}

// stranger: an entry that no log here has, and that may not be.
var stranger = entry(-7, -7, api.Op{Kind: 77, Slot: -7, Value: "stranger"})

// normal: a state that may be; the log and the commit number may be its, if it is one of c's.
func normal(c api.Config, self, view int, log []api.Entry, commit int) api.State {
	return api.State{Self: self, Status: api.StatusNormal, View: view, Last: view, Log: log, Commit: commit, Vector: make(api.Vector, nodesOf(c))}
}

// changing: likewise, while it changes its view, which is above 0.
func changing(c api.Config, self, view int, log []api.Entry, commit int) api.State {
	s := normal(c, self, view, log, commit)
	s.Status, s.Last, s.Idle = api.StatusChange, view-1, 3
	s.Marks = []api.Mark{{Node: (self + 1) % nodesOf(c)}}
	return s
}

// recovering: with an answer that has a log.
func recovering(c api.Config, self int) api.State {
	s := api.State{Self: self, Status: api.StatusRecovering, Vector: make(api.Vector, nodesOf(c))}
	s.Vector[self] = api.Draw{Lo: 5}
	other := (self + 1) % nodesOf(c)
	s.Answers = []api.Answer{{Node: other, View: other, Log: logOf(3), Commit: 2}}
	return s
}

// ups: states that may be and are not recovering, with that log and commit number, of several replicas and views.
func ups(c api.Config, log []api.Entry, commit int) []api.State {
	n := nodesOf(c)
	primary := normal(c, 1, 1+3*n, log, commit)
	if len(log) > 0 {
		primary.Acks = []api.Ack{{Node: 0, Place: len(log)}, {Node: 2, Place: 1}}
	}
	backup := normal(c, n-1, 0, log, commit)
	backup.Vector[0], backup.Vector[n-1], backup.Idle = api.Draw{Hi: 9}, api.Draw{Lo: 4}, c.Patience-1
	return []api.State{primary, backup, normal(c, 0, api.MaxView, log, commit), changing(c, 2, 1, log, commit), changing(c, 0, api.MaxView, log, commit)}
}

// wrongStates: states that may not be, each for one reason.
func wrongStates(c api.Config) []api.State {
	l := []api.State{{}, {Status: api.StatusNormal}}
	for _, s := range []api.State{normal(c, 1, 3, logOf(3), 2), changing(c, 1, 3, logOf(3), 2), recovering(c, 1)} {
		for _, change := range []func(*api.State){
			func(s *api.State) { s.Self = -1 },
			func(s *api.State) { s.Self = nodesOf(c) },
			func(s *api.State) { s.Self = greatest },
			func(s *api.State) { s.Status = 0 },
			func(s *api.State) { s.Status = 4 },
			func(s *api.State) { s.View, s.Last = -1, -1 },
			func(s *api.State) { s.View = api.MaxView + 1 },
			func(s *api.State) { s.Last = s.View + 1 },
			func(s *api.State) { s.Log = with(logOf(3), 3, logOf(1)[0]) },
			func(s *api.State) { s.Log = with(logOf(3), 2, stranger) },
			func(s *api.State) { s.Log = logOf(c.Room + 1) },
			func(s *api.State) { s.Commit = -1 },
			func(s *api.State) { s.Commit = len(s.Log) + 1 },
			func(s *api.State) { s.Commit = least },
			func(s *api.State) { s.Commit = greatest },
			func(s *api.State) { s.Vector = s.Vector[1:] },
			func(s *api.State) { s.Vector = nil },
			func(s *api.State) { s.Idle = c.Patience },
			func(s *api.State) { s.Acks = []api.Ack{{Node: s.Self, Place: 1}} },
			func(s *api.State) { s.Marks = []api.Mark{{Node: s.Self}} },
		} {
			other := s
			change(&other)
			l = append(l, other)
		}
	}
	return l
}

func long(n int) string { return strings.Repeat("v", n) }

func seeded(seed uint64) *rand.Rand { return rand.New(rand.NewPCG(seed, 21)) }

func pick[T any](r *rand.Rand, l ...T) T { return l[r.IntN(len(l))] }

func someHash(r *rand.Rand) api.Hash {
	var h api.Hash
	for i := range h {
		h[i] = byte(r.Uint32())
	}
	return h
}

func somePath(r *rand.Rand, n int) []api.Hash {
	var path []api.Hash
	for range n {
		path = append(path, someHash(r))
	}
	return path
}

// flipped: with one bit turned.
func flipped(h api.Hash, bit int) api.Hash {
	h[bit/8%32] ^= 1 << (bit % 8)
	return h
}

// spoilt: paths that are not this one: a digest is changed, left out or put in.
func spoilt(path []api.Hash) [][]api.Hash {
	l := [][]api.Hash{append(slices.Clone(path), api.Hash{}), append([]api.Hash{{7}}, path...)}
	for i := range path {
		other := slices.Clone(path)
		other[i] = flipped(other[i], 37*i+len(path))
		l = append(l, other, slices.Delete(slices.Clone(path), i, i+1), slices.Insert(slices.Clone(path), i, path[i]))
	}
	return l
}

// claim: of a log, by replica 1 in view 3.
func claim(l []api.Entry) api.Claim {
	return api.Claim{Node: 1, View: 3, Size: len(l), Head: tree.Head(l)}
}

// bridge: the path from the first entries to all.
func bridge(t *testing.T, l []api.Entry, size int) []api.Hash {
	t.Helper()
	path, e := tree.Consistency(l, size)
	if e != api.OK {
		t.Fatal(e)
	}
	return path
}

// receiptOf: of a place of a log of any entries, with that result.
func receiptOf(t *testing.T, l []api.Entry, place int, result api.Result) api.Receipt {
	t.Helper()
	path, e := tree.Inclusion(l, place)
	if e != api.OK {
		t.Fatal(e)
	}
	return api.Receipt{Entry: l[place-1], Place: place, Result: result, Claim: claim(l), Path: path}
}

// wrongClaims: that claim, made one that may not be in each of its fields.
func wrongClaims(k api.Claim) []api.Claim {
	var l []api.Claim
	for _, x := range []int{least, -1, 7, 8, greatest} {
		other := k
		other.Node = x
		l = append(l, other)
	}
	for _, x := range []int{least, -1, api.MaxView + 1, greatest} {
		other := k
		other.View = x
		l = append(l, other)
	}
	for _, x := range []int{least, -1, 257, greatest} {
		other := k
		other.Size = x
		l = append(l, other)
	}
	return l
}

// sameReceipt: field by field, nil and empty paths being one.
func sameReceipt(a, b api.Receipt) bool {
	return a.Entry == b.Entry && a.Place == b.Place && a.Result == b.Result && a.Claim == b.Claim && slices.Equal(a.Path, b.Path)
}

// mustBe: the test's own state may be.
func mustBe(t *testing.T, c api.Config, states ...api.State) {
	t.Helper()
	for _, s := range states {
		if e := core.Check(c, s); e != api.OK {
			t.Fatal("the test's own state may not be:", e, s)
		}
	}
}

// expectEnough: what was met in all draws of a test is not too little.
func expectEnough[K comparable](t *testing.T, met, atLeast map[K]int) {
	t.Helper()
	for what, n := range atLeast {
		if met[what] < n {
			t.Error("too few:", what, met)
		}
	}
}
