package audit_test

import (
	"math/rand/v2"
	"slices"
	"testing"

	"amnesia/api"
	"amnesia/audit"
	"amnesia/tree"
)

// P21.1: an Auditor, call by call.

func expectHear(t *testing.T, a *audit.Auditor, k api.Claim, path []api.Hash, want api.Errno) {
	t.Helper()
	if e := a.Hear(k, path); e != want {
		t.Fatalf("Hear: %d, want %d: %+v, %x", e, want, k, path)
	}
}

func expectTake(t *testing.T, a *audit.Auditor, r api.Receipt, path []api.Hash, want api.Errno) {
	t.Helper()
	if e := a.Take(r, path); e != want {
		t.Fatalf("Take: %d, want %d: %+v, %x", e, want, r, path)
	}
}

// expectAuditor: all that one can ask of it.
func expectAuditor(t *testing.T, a *audit.Auditor, latest api.Claim, any bool, heard int, forks ...api.Fork) {
	t.Helper()
	if k, is := a.Latest(); k != latest || is != any {
		t.Fatalf("Latest: %+v, %v, want %+v, %v", k, is, latest, any)
	}
	if got := a.Heard(); got != heard {
		t.Fatalf("Heard: %d, want %d", got, heard)
	}
	if got := a.Forks(); !slices.Equal(got, forks) {
		t.Fatalf("Forks: %+v, want %+v", got, forks)
	}
}

// by: the same claim, of another replica in another view.
func by(k api.Claim, node, view int) api.Claim {
	k.Node, k.View = node, view
	return k
}

func TestAnAuditorWhoHasHeardNothing(t *testing.T) {
	a := audit.New()
	if a == nil {
		t.Fatal("New answers none")
	}
	expectAuditor(t, a, api.Claim{}, false, 0)
}

// The first claim is the latest, with whatever path, and whatever its head.
func TestTheFirstClaim(t *testing.T) {
	r := seeded(1)
	for _, n := range []int{0, 1, 2, 3, 128, 256} {
		for _, k := range []api.Claim{claim(logOf(n)), {Size: n, Head: someHash(r)}, {Node: 6, View: api.MaxView, Size: n}} {
			for _, path := range [][]api.Hash{nil, {}, {{}}, {k.Head}, somePath(r, 100)} {
				a := audit.New()
				expectHear(t, a, k, path, api.OK)
				expectAuditor(t, a, k, true, 1)
			}
		}
	}
}

// A claim of the same size: its path is not asked, and the first one stays the latest.
func TestClaimsOfTheSameSize(t *testing.T) {
	r := seeded(2)
	for _, n := range []int{0, 1, 2, 3, 7, 256} {
		for _, path := range [][]api.Hash{nil, {}, {{}}, somePath(r, 2), somePath(r, 50)} {
			a, k := audit.New(), claim(logOf(n))
			expectHear(t, a, k, nil, api.OK)
			for node := range 7 {
				expectHear(t, a, by(k, node, node*node), path, api.OK)
				expectAuditor(t, a, k, true, 2+node)
			}
			var forks []api.Fork
			for i := range 5 {
				other := by(k, 6-i, api.MaxView-i)
				other.Head = flipped(k.Head, 51*i)
				expectHear(t, a, other, path, api.ErrFork)
				forks = append(forks, api.Fork{A: k, B: other})
				expectAuditor(t, a, k, true, 9+i, forks...)
			}
			expectHear(t, a, forks[2].B, path, api.ErrFork) // the same once more is laid behind the others once more
			expectAuditor(t, a, k, true, 14, append(forks, forks[2])...)
			expectHear(t, a, k, path, api.OK)
			expectAuditor(t, a, k, true, 15, append(forks, forks[2])...)
		}
	}
}

// A claim of a greater size: it is the latest, if the path leads to it.
func TestClaimsOfGreaterSizes(t *testing.T) {
	l := logOf(17)
	for m := range 17 {
		for n := m + 1; n <= 17; n++ {
			a, k := audit.New(), by(claim(l[:n]), 2, 0)
			expectHear(t, a, claim(l[:m]), nil, api.OK)
			path := bridge(t, l[:n], m)
			for i, wrong := range spoilt(path) {
				expectHear(t, a, k, wrong, api.ErrProof)
				expectAuditor(t, a, claim(l[:m]), true, 2+i)
			}
			heard := a.Heard()
			if m > 0 {
				expectHear(t, a, k, nil, api.ErrProof)
				other := k
				other.Head = flipped(k.Head, 9*m)
				expectHear(t, a, other, path, api.ErrProof)
				expectHear(t, a, claim(otherLog(l[:n], m)), bridge(t, otherLog(l[:n], m), m), api.ErrProof)
				heard += 3
			}
			expectAuditor(t, a, claim(l[:m]), true, heard)
			expectHear(t, a, k, path, api.OK)
			expectAuditor(t, a, k, true, heard+1)
		}
	}
}

// A claim of a lesser size: it is taken, if a path leads from it to the latest, which stays.
func TestClaimsOfLesserSizes(t *testing.T) {
	l := logOf(17)
	for n := 1; n <= 17; n++ {
		a, latest := audit.New(), claim(l[:n])
		expectHear(t, a, latest, nil, api.OK)
		heard := 1
		hear := func(k api.Claim, path []api.Hash, want api.Errno) {
			t.Helper()
			heard++
			expectHear(t, a, k, path, want)
			expectAuditor(t, a, latest, true, heard)
		}
		for m := range n {
			path, k := bridge(t, l[:n], m), by(claim(l[:m]), 5, api.MaxView)
			hear(k, path, api.OK)
			for _, wrong := range spoilt(path) {
				hear(k, wrong, api.ErrProof)
			}
			other := k
			other.Head = flipped(k.Head, 9*m)
			hear(other, path, api.ErrProof)
			if m > 0 {
				hear(k, nil, api.ErrProof)
				hear(claim(otherLog(l[:m], 1)), path, api.ErrProof)
			}
		}
	}
}

// A latest claim of no entries, with a head that no entries have, was taken as the first: nothing extends it, and it is kept.
func TestAFalseClaimOfNothing(t *testing.T) {
	a, k := audit.New(), api.Claim{Head: api.Hash{1}}
	expectHear(t, a, k, nil, api.OK)
	expectHear(t, a, claim(logOf(3)), nil, api.ErrProof)
	expectHear(t, a, claim(nil), nil, api.ErrFork)
	expectAuditor(t, a, k, true, 3, api.Fork{A: k, B: claim(nil)})
	a = audit.New()
	expectHear(t, a, claim(logOf(3)), nil, api.OK)
	expectHear(t, a, k, nil, api.ErrProof)
	expectAuditor(t, a, claim(logOf(3)), true, 2)
}

// From no entries each claim is taken without a path, and only without one.
func TestFromNothing(t *testing.T) {
	for n := 1; n <= 256; n *= 2 {
		k := api.Claim{Size: n, Head: someHash(seeded(uint64(n)))}
		a := audit.New()
		expectHear(t, a, claim(nil), nil, api.OK)
		expectHear(t, a, k, []api.Hash{{}}, api.ErrProof)
		expectHear(t, a, k, nil, api.OK)
		expectHear(t, a, claim(nil), []api.Hash{{}}, api.ErrProof)
		expectHear(t, a, claim(nil), nil, api.OK)
		expectAuditor(t, a, k, true, 5)
	}
}

// A claim that may not be changes nothing, and is not counted.
func TestClaimsThatMayNotBe(t *testing.T) {
	l := logOf(5)
	a := audit.New()
	for _, k := range wrongClaims(claim(l)) {
		expectHear(t, a, k, nil, api.ErrClaim)
		expectHear(t, a, k, bridge(t, l, 3), api.ErrClaim)
		expectAuditor(t, a, api.Claim{}, false, 0)
	}
	expectHear(t, a, claim(l), nil, api.OK)
	other := claim(otherLog(l, 2))
	expectHear(t, a, other, nil, api.ErrFork)
	for _, k := range append(wrongClaims(claim(l)), wrongClaims(other)...) {
		expectHear(t, a, k, nil, api.ErrClaim)
		expectAuditor(t, a, claim(l), true, 2, api.Fork{A: claim(l), B: other})
	}
	for _, k := range []api.Claim{by(claim(l), 0, 0), by(claim(l), 6, api.MaxView)} {
		expectHear(t, a, k, nil, api.OK)
	}
	most := claim(logOf(256))
	expectHear(t, a, most, bridge(t, logOf(256), 5), api.OK)
	expectAuditor(t, a, most, true, 5, api.Fork{A: claim(l), B: other})
}

// The latest is the first of the greatest size; a fork has the claim that was the latest then.
func TestTheLatest(t *testing.T) {
	l, a := logOf(9), audit.New()
	expectHear(t, a, by(claim(l[:3]), 0, 0), nil, api.OK)
	expectHear(t, a, by(claim(l[:3]), 1, 1), nil, api.OK)
	first := api.Fork{A: by(claim(l[:3]), 0, 0), B: claim(otherLog(l[:3], 2))}
	expectHear(t, a, first.B, nil, api.ErrFork)
	expectHear(t, a, by(claim(l[:9]), 2, 2), bridge(t, l, 3), api.OK)
	expectHear(t, a, by(claim(l[:9]), 3, 3), nil, api.OK)
	expectHear(t, a, by(claim(l[:3]), 4, 4), bridge(t, l, 3), api.OK)
	expectHear(t, a, by(claim(l[:3]), 4, 4), bridge(t, l, 4), api.ErrProof)
	expectHear(t, a, first.B, bridge(t, l, 3), api.ErrProof) // it is of another size than the latest now
	second := api.Fork{A: by(claim(l[:9]), 2, 2), B: claim(otherLog(l, 9))}
	expectHear(t, a, second.B, bridge(t, l, 3), api.ErrFork)
	expectAuditor(t, a, by(claim(l[:9]), 2, 2), true, 9, first, second)
}

func TestTake(t *testing.T) {
	l := logOf(9)
	a := audit.New()
	r := receiptOf(t, l[:4], 2, res(api.ResWritten, 1, "nobody asks"))
	for _, k := range wrongClaims(r.Claim) {
		other := r
		other.Claim = k
		expectTake(t, a, other, nil, api.ErrClaim)
	}
	for _, path := range spoilt(r.Path) {
		other := r
		other.Path = path
		expectTake(t, a, other, nil, api.ErrReceipt)
	}
	expectTake(t, a, api.Receipt{}, nil, api.ErrReceipt)
	expectAuditor(t, a, api.Claim{}, false, 0)
	expectTake(t, a, r, somePath(seeded(4), 3), api.OK)
	expectAuditor(t, a, claim(l[:4]), true, 1)

	longer := receiptOf(t, l, 9, api.Result{})
	expectTake(t, a, longer, nil, api.ErrProof)
	wrong := longer
	wrong.Place = 8
	expectTake(t, a, wrong, bridge(t, l, 4), api.ErrReceipt) // though its claim would be taken
	expectAuditor(t, a, claim(l[:4]), true, 2)
	expectTake(t, a, longer, bridge(t, l, 4), api.OK)
	expectAuditor(t, a, claim(l), true, 3)
	expectTake(t, a, r, bridge(t, l, 4), api.OK)
	expectTake(t, a, r, r.Path, api.ErrProof)
	other := receiptOf(t, otherLog(l, 5), 1, api.Result{})
	expectTake(t, a, other, nil, api.ErrFork)
	wrong = other
	wrong.Entry = stranger
	expectTake(t, a, wrong, nil, api.ErrReceipt) // a receipt that does not hold is no evidence
	expectAuditor(t, a, claim(l), true, 6, api.Fork{A: claim(l), B: other.Claim})
}

// Auditors that New did not make.
func TestAuditorsThatNewDidNotMake(t *testing.T) {
	l := logOf(5)
	zero := audit.Auditor{}
	for _, a := range []*audit.Auditor{nil, {}, new(audit.Auditor), &zero} {
		for range 3 {
			expectAuditor(t, a, api.Claim{}, false, 0)
			for _, k := range append(wrongClaims(claim(l)), claim(l), claim(nil), claim(otherLog(l, 1)), api.Claim{}) {
				expectHear(t, a, k, nil, api.ErrMade)
				expectHear(t, a, k, bridge(t, l, 2), api.ErrMade)
			}
			for _, r := range []api.Receipt{{}, receiptOf(t, l, 2, api.Result{}), {Claim: api.Claim{Node: -1}}} {
				expectTake(t, a, r, nil, api.ErrMade)
				expectTake(t, a, r, bridge(t, l, 2), api.ErrMade)
			}
		}
		expectAuditor(t, a, api.Claim{}, false, 0)
	}
}

// someClaim: mostly of a beginning of one of few logs, and mostly with the path between it and that one's other beginning.
func someClaim(t *testing.T, r *rand.Rand, logs [][]api.Entry, latest api.Claim) (api.Receipt, []api.Hash) {
	t.Helper()
	l := pick(r, logs...)
	l = l[:r.IntN(len(l)+1)]
	k := by(claim(l), r.IntN(7), pick(r, r.IntN(9), api.MaxView))
	receipt := api.Receipt{Claim: k}
	if len(l) > 0 {
		receipt = receiptOf(t, l, 1+r.IntN(len(l)), api.Result{})
		receipt.Claim = k
	}
	long := l
	if latest.Size > len(l) {
		for _, other := range logs {
			if len(other) >= latest.Size && tree.Head(other[:latest.Size]) == latest.Head {
				long = other[:latest.Size]
			}
		}
	}
	path, _ := tree.Consistency(long, min(latest.Size, len(l)))
	switch r.IntN(12) {
	case 0:
		receipt.Claim = pick(r, wrongClaims(k)...)
	case 1:
		path = pick(r, spoilt(path)...)
	case 2:
		path = nil
	case 3:
		receipt.Claim.Head = someHash(r)
	case 4:
		receipt.Path = pick(r, spoilt(receipt.Path)...)
	}
	return receipt, path
}

// Scripts of claims and receipts, against the chapter's words call by call; and P21.4: what is found is evidence.
func TestAuditorsScripts(t *testing.T) {
	met := make(map[api.Errno]int)
	for seed := range uint64(300) {
		r := seeded(5000 + seed)
		l := logOf(1 + r.IntN(20))
		logs := [][]api.Entry{l, l, otherLog(l, 1+r.IntN(len(l))), append(slices.Clone(l[:len(l)/2]), otherLog(logOf(3), 1)...)}
		a, m := audit.New(), &modelAuditor{}
		told := make(map[api.Claim]bool)
		for range 30 {
			latest, _ := m.latest()
			receipt, path := someClaim(t, r, logs, latest)
			if r.IntN(2) == 0 {
				want := m.hear(receipt.Claim, path)
				expectHear(t, a, receipt.Claim, path, want)
				met[want]++
			} else {
				want := m.take(receipt, path)
				expectTake(t, a, receipt, path, want)
				met[want]++
			}
			told[receipt.Claim] = true
			latest, any := m.latest()
			expectAuditor(t, a, latest, any, m.heard, m.forks...)
		}
		expectEvidence(t, a.Forks(), func(k api.Claim) bool { return told[k] })
	}
	expectEnough(t, met, map[api.Errno]int{api.OK: 2000, api.ErrProof: 500, api.ErrFork: 100, api.ErrClaim: 300, api.ErrReceipt: 200})
}
