package audit_test

import (
	"slices"
	"testing"

	"amnesia/api"
	"amnesia/audit"
	"amnesia/client"
	"amnesia/ledger"
	"amnesia/tree"
)

// P21.1: Claim, Receipt and Bridge.

// expectClaim: field by field.
func expectClaim(t *testing.T, c api.Config, s api.State) api.Claim {
	t.Helper()
	k, e := audit.Claim(c, s)
	if e != api.OK {
		t.Fatal(e, s)
	}
	if k.Node != s.Self || k.View != s.View || k.Size != s.Commit || k.Head != tree.Head(s.Log[:s.Commit]) {
		t.Fatal(k, s)
	}
	return k
}

// expectReceipt: field by field.
func expectReceipt(t *testing.T, c api.Config, s api.State, place int) api.Receipt {
	t.Helper()
	r, e := audit.Receipt(c, s, place)
	if e != api.OK {
		t.Fatal(e, place, s)
	}
	history := s.Log[:s.Commit]
	rows, _ := client.Between(history, 0, s.Commit)
	path, _ := tree.Inclusion(history, place)
	if r.Entry != s.Log[place-1] || r.Place != place || r.Result != rows[place-1].Result || r.Claim != expectClaim(t, c, s) || !slices.Equal(r.Path, path) {
		t.Fatal(r, place, s)
	}
	return r
}

func expectBridge(t *testing.T, c api.Config, s api.State, size int) []api.Hash {
	t.Helper()
	path, e := audit.Bridge(c, s, size)
	want, _ := tree.Consistency(s.Log[:s.Commit], size)
	if e != api.OK || !slices.Equal(path, want) {
		t.Fatal(path, e, size, s)
	}
	return path
}

// expectNothing: all three answer that error, and nothing beside it.
func expectNothing(t *testing.T, c api.Config, s api.State, at int, want api.Errno) {
	t.Helper()
	if k, e := audit.Claim(c, s); e != want || k != (api.Claim{}) {
		t.Fatal("Claim:", k, e, want, s)
	}
	expectNoReceipt(t, c, s, at, want)
	expectNoBridge(t, c, s, at, want)
}

func expectNoReceipt(t *testing.T, c api.Config, s api.State, place int, want api.Errno) {
	t.Helper()
	if r, e := audit.Receipt(c, s, place); e != want || len(r.Path) != 0 || !sameReceipt(r, api.Receipt{}) {
		t.Fatal("Receipt:", r, e, want, place, s)
	}
}

func expectNoBridge(t *testing.T, c api.Config, s api.State, size int, want api.Errno) {
	t.Helper()
	if path, e := audit.Bridge(c, s, size); e != want || len(path) != 0 {
		t.Fatal("Bridge:", path, e, want, size, s)
	}
}

// beyond: numbers that are no place and no size of a history of so many.
func beyond(commit int) []int {
	return []int{-1, -2, -commit, least, least + 1, commit + 1, commit + 2, 1 << 32, greatest - 1, greatest}
}

// expectAll: of a state every place and every size, and those that there are not.
func expectAll(t *testing.T, c api.Config, s api.State) {
	t.Helper()
	mustBe(t, c, s)
	expectClaim(t, c, s)
	for at := range s.Commit + 1 {
		if at > 0 {
			expectReceipt(t, c, s, at)
		}
		expectBridge(t, c, s, at)
	}
	expectNoReceipt(t, c, s, 0, api.ErrPlace)
	for _, at := range beyond(s.Commit) {
		if at == 0 {
			continue
		}
		expectNoReceipt(t, c, s, at, api.ErrPlace)
		expectNoBridge(t, c, s, at, api.ErrSize)
	}
}

func TestClaimReceiptBridge(t *testing.T) {
	for _, c := range []api.Config{three, five, seven, {F: 1, Room: 10, Patience: 6, Unguarded: true}} {
		for n := range min(c.Room, 10) + 1 {
			for commit := range n + 1 {
				for _, s := range ups(c, logOf(n), commit) {
					expectAll(t, c, s)
				}
			}
		}
	}
}

func TestOfAFullLog(t *testing.T) {
	var l []api.Entry
	for i := range api.MaxLog {
		l = append(l, entry(15-i%16, api.MaxNumber-api.MaxLog+i, write(i%50, long(api.MaxValue))))
	}
	for _, commit := range []int{0, 1, 127, 128, 129, 255, 256} {
		s := normal(seven, 6, api.MaxView, l, commit)
		mustBe(t, seven, s)
		expectClaim(t, seven, s)
		for _, at := range []int{1, 2, 64, 127, 128, 129, 255, 256} {
			if at <= commit {
				expectReceipt(t, seven, s, at)
				expectBridge(t, seven, s, at)
				continue
			}
			expectNoReceipt(t, seven, s, at, api.ErrPlace)
			expectNoBridge(t, seven, s, at, api.ErrSize)
		}
	}
}

// The results of a log, by hand.
func TestReceiptsHaveTheResult(t *testing.T) {
	l := []api.Entry{entry(0, 1, write(7, "a")), entry(1, 5, write(7, "b")), entry(0, 2, read(7)), entry(2, 1, add("c")), entry(2, 2, count), entry(0, 9, read(3)), entry(1, 6, write(1023, "")), entry(1, 7, add("x"))}
	want := []api.Result{
		res(api.ResWritten, 7, "a"), res(api.ResTaken, 7, "a"), res(api.ResFound, 7, "a"), res(api.ResWritten, 8, "c"),
		res(api.ResCount, 2, ""), res(api.ResNone, 3, ""), res(api.ResWritten, 1023, ""), res(api.ResFull, 0, ""),
	}
	for commit := range len(l) + 1 {
		for _, s := range ups(five, l, commit) {
			for place := 1; place <= commit; place++ {
				r := expectReceipt(t, five, s, place)
				if r.Result != want[place-1] {
					t.Fatal(r, want[place-1])
				}
			}
		}
	}
	var ops []api.Op
	for _, e := range l {
		ops = append(ops, e.Op)
	}
	if _, results := ledger.Replay(ops); !slices.Equal(results, want) {
		t.Fatal("the test's own results are others:", results)
	}
}

// Heads and paths of three entries, by hand.
func TestTheHeadsAndPathsOfThree(t *testing.T) {
	l := logOf(4)
	s := changing(three, 1, 4, l, 3)
	a, b, c := tree.Leaf(l[0]), tree.Leaf(l[1]), tree.Leaf(l[2])
	if k := expectClaim(t, three, s); k != (api.Claim{Node: 1, View: 4, Size: 3, Head: tree.Node(tree.Node(a, b), c)}) {
		t.Fatal(k)
	}
	for place, path := range [][]api.Hash{{b, c}, {a, c}, {tree.Node(a, b)}} {
		if r := expectReceipt(t, three, s, place+1); !slices.Equal(r.Path, path) {
			t.Fatal(r, path)
		}
	}
	for size, path := range [][]api.Hash{{}, {b, c}, {c}, {}} {
		if got := expectBridge(t, three, s, size); !slices.Equal(got, path) {
			t.Fatal(got, path)
		}
	}
}

// What stands in the log and is not carried out has no part.
func TestWhatIsNotCarriedOut(t *testing.T) {
	l := logOf(9)
	for commit := range 9 {
		short, other := normal(five, 3, 1, l[:commit], commit), normal(five, 3, 1, otherLog(l, commit+1), commit)
		mustBe(t, five, short, other)
		if expectClaim(t, five, short) != expectClaim(t, five, other) {
			t.Fatal(commit)
		}
		for at := range commit + 1 {
			if at > 0 && !sameReceipt(expectReceipt(t, five, short, at), expectReceipt(t, five, other, at)) {
				t.Fatal(commit, at)
			}
			if !slices.Equal(expectBridge(t, five, short, at), expectBridge(t, five, other, at)) {
				t.Fatal(commit, at)
			}
		}
	}
}

// The errors in their order: the configuration, the state, its status, then the place or the size.
func TestErrorsInTheirOrder(t *testing.T) {
	places := []int{least, -1, 0, 1, 2, 3, 4, greatest}
	states := append(wrongStates(three), recovering(three, 2), normal(three, 0, 0, logOf(3), 3))
	for _, at := range places {
		for _, c := range wrongConfigs() {
			for _, s := range states {
				expectNothing(t, c, s, at, api.ErrConfig)
			}
		}
		for _, s := range wrongStates(three) {
			expectNothing(t, three, s, at, api.ErrState)
		}
		for node := range 3 {
			mustBe(t, three, recovering(three, node))
			expectNothing(t, three, recovering(three, node), at, api.ErrStatus)
		}
	}
	reborn := recovering(three, 1)
	reborn.Answers = nil
	expectNothing(t, three, reborn, 1, api.ErrStatus)
	expectNothing(t, three, normal(five, 0, 0, nil, 0), 1, api.ErrState) // a state of another group
	expectNothing(t, three, normal(three, 0, 0, logOf(5), 1), 1, api.ErrState)
	expectNoReceipt(t, three, normal(three, 0, 0, logOf(3), 2), 3, api.ErrPlace) // in the log, and not carried out
	expectNoBridge(t, three, normal(three, 0, 0, logOf(3), 2), 3, api.ErrSize)
}
