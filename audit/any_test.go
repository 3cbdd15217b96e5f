package audit_test

import (
	"math/rand/v2"
	"reflect"
	"slices"
	"testing"

	"amnesia/api"
	"amnesia/audit"
	"amnesia/client"
	"amnesia/core"
	"amnesia/tree"
)

// P1, P4 and P5 of DOC.md: every call ends and none panics, whatever it is given, and answers what the chapter says.

var edges = []int{least, least + 1, -1 << 32, -257, -8, -2, -1, 0, 1, 2, 3, 4, 5, 6, 7, 8, 100, 255, 256, 257, 1<<32 - 1, 1 << 32, 1<<32 + 1, greatest - 1, greatest}

// wild turns some of a value's numbers into others, and lets some of its lists be none.
func wild(r *rand.Rand, v reflect.Value, often int) {
	switch v.Kind() {
	case reflect.Struct:
		for i := range v.NumField() {
			wild(r, v.Field(i), often)
		}
	case reflect.Slice:
		if r.IntN(3*often) == 0 {
			v.SetZero()
		}
		for i := range v.Len() {
			wild(r, v.Index(i), often)
		}
	case reflect.Int:
		if r.IntN(often) == 0 {
			v.SetInt(int64(pick(r, edges...)))
		}
	case reflect.Array:
		if r.IntN(often) == 0 {
			v.Index(r.IntN(v.Len())).SetUint(r.Uint64N(256))
		}
	}
}

// expectGiven: Claim, Receipt and Bridge, by the chapter's words.
func expectGiven(t *testing.T, c api.Config, s api.State, at int) api.Errno {
	t.Helper()
	e := core.Check(c, s)
	if e == api.OK && s.Status == api.StatusRecovering {
		e = api.ErrStatus
	}
	if e != api.OK {
		expectNothing(t, c, s, at, e)
		return e
	}
	expectClaim(t, c, s)
	if at < 1 || at > s.Commit {
		expectNoReceipt(t, c, s, at, api.ErrPlace)
	} else {
		r := expectReceipt(t, c, s, at)
		if rows, _ := client.Between(s.Log, at-1, at); rows[0].Result != r.Result {
			t.Fatal(r, rows)
		}
	}
	if at < 0 || at > s.Commit {
		expectNoBridge(t, c, s, at, api.ErrSize)
	} else {
		expectBridge(t, c, s, at)
	}
	return api.OK
}

func TestOfAnyState(t *testing.T) {
	r := seeded(60)
	met := make(map[api.Errno]int)
	for range 6000 {
		c := pick(r, three, five, seven)
		var l []api.State
		for range 1 + r.IntN(3) {
			s := pick(r, someStates(r, pick(r, c, three, five), 1)...)
			s = api.State{Self: s.Self, Status: s.Status, View: s.View, Last: s.Last, Log: slices.Clone(s.Log), Commit: s.Commit, Vector: slices.Clone(s.Vector), Idle: s.Idle,
				Acks: slices.Clone(s.Acks), Marks: slices.Clone(s.Marks), Ballots: slices.Clone(s.Ballots), Answers: slices.Clone(s.Answers)}
			wild(r, reflect.ValueOf(&s).Elem(), pick(r, 5, 50, 1000))
			l = append(l, s)
		}
		wild(r, reflect.ValueOf(&c).Elem(), 40)
		met[expectGiven(t, c, l[0], pick(r, edges...))]++
		want, wantE := modelSweep(c, l)
		if forks, e := audit.Sweep(c, l); e != wantE || !slices.Equal(forks, want) {
			t.Fatal(forks, e, want, wantE)
		}
	}
	expectEnough(t, met, map[api.Errno]int{api.OK: 1000, api.ErrConfig: 200, api.ErrState: 1000, api.ErrStatus: 100})
	huge := api.State{Log: make([]api.Entry, 100000), Vector: make(api.Vector, 100000), Commit: 100000}
	expectNothing(t, seven, huge, 1, api.ErrState)
	expectNoSweep(t, seven, slices.Repeat(states(huge), 5), api.ErrState)
}

func TestOfAnyReceipt(t *testing.T) {
	r := seeded(61)
	met := make(map[api.Errno]int)
	for range 6000 {
		l := someLog(r, 1+r.IntN(20))
		size := 1 + r.IntN(len(l))
		place := 1 + r.IntN(size)
		receipt := receiptOf(t, l[:size], place, resultsOf(l)[place-1])
		often := pick(r, 5, 50, 1000)
		wild(r, reflect.ValueOf(&receipt).Elem(), often)
		log := slices.Clone(pick(r, l, l[:size], someLog(r, len(l))))
		wild(r, reflect.ValueOf(&log).Elem(), 500)
		if e := audit.Check(receipt); e != modelCheck(receipt) {
			t.Fatal(e, receipt)
		}
		want := modelConfirm(receipt, log)
		expectConfirm(t, "any", receipt, log, want)
		met[want]++
		a, m := audit.New(), &modelAuditor{}
		for range 3 {
			path := pick(r, nil, receipt.Path, bridge(t, l, r.IntN(size+1)), bridge(t, l[:size], r.IntN(size+1)))
			other := receipt
			wild(r, reflect.ValueOf(&other.Claim).Elem(), often)
			expectTake(t, a, other, path, m.take(other, path))
			expectHear(t, a, other.Claim, path, m.hear(other.Claim, path))
			latest, any := m.latest()
			expectAuditor(t, a, latest, any, m.heard, m.forks...)
		}
	}
	expectEnough(t, met, map[api.Errno]int{api.OK: 1000, api.ErrClaim: 500, api.ErrReceipt: 1000})
}

// Greatest numbers everywhere, and paths of any length.
func TestNumbersAtTheirEnds(t *testing.T) {
	r := seeded(62)
	for _, x := range edges {
		for _, y := range edges {
			k := api.Claim{Node: y & 7, View: x, Size: y, Head: tree.Head(nil)}
			receipt := api.Receipt{Entry: entry(x, y, api.Op{Kind: x, Slot: y}), Place: x, Result: res(x, y, ""), Claim: k, Path: somePath(r, r.IntN(70))}
			if e := audit.Check(receipt); e != modelCheck(receipt) {
				t.Fatal(e, receipt)
			}
			expectConfirm(t, "ends", receipt, nil, modelConfirm(receipt, nil))
			a, m := audit.New(), &modelAuditor{}
			for _, path := range [][]api.Hash{nil, receipt.Path} {
				expectHear(t, a, k, path, m.hear(k, path))
				expectHear(t, a, api.Claim{Size: x}, path, m.hear(api.Claim{Size: x}, path))
				expectTake(t, a, receipt, path, m.take(receipt, path))
			}
		}
	}
	a, many := audit.New(), 50000
	expectHear(t, a, claim(nil), nil, api.OK)
	for i := range many {
		expectHear(t, a, api.Claim{Head: api.Hash{byte(i), 1}}, nil, api.ErrFork)
	}
	if a.Heard() != many+1 || len(a.Forks()) != many {
		t.Fatal(a.Heard(), len(a.Forks()))
	}
}
