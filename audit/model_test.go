package audit_test

import (
	"math/rand/v2"
	"slices"
	"testing"

	"amnesia/api"
	"amnesia/core"
	"amnesia/tree"
)

// What chapter 21 says, written once more.

func modelSweep(c api.Config, l []api.State) ([]api.Fork, api.Errno) {
	if e := core.CheckConfig(c); e != api.OK {
		return nil, e
	}
	var forks []api.Fork
	for _, s := range l {
		if e := core.Check(c, s); e != api.OK {
			return nil, e
		}
	}
	for i := range l {
		for j := i + 1; j < len(l); j++ {
			m := l[i].Commit
			if l[j].Commit < m {
				m = l[j].Commit
			}
			if l[i].Status == api.StatusRecovering || l[j].Status == api.StatusRecovering || slices.Equal(l[i].Log[:m], l[j].Log[:m]) {
				continue
			}
			forks = append(forks, api.Fork{
				A: api.Claim{Node: l[i].Self, View: l[i].View, Size: m, Head: tree.Head(l[i].Log[:m])},
				B: api.Claim{Node: l[j].Self, View: l[j].View, Size: m, Head: tree.Head(l[j].Log[:m])},
			})
		}
	}
	return forks, api.OK
}

func modelClaimMayBe(k api.Claim) bool {
	return k.Node >= 0 && k.Node < 7 && k.View >= 0 && k.View <= 4294967296 && k.Size >= 0 && k.Size < 257
}

func modelCheck(r api.Receipt) api.Errno {
	if !modelClaimMayBe(r.Claim) {
		return api.ErrClaim
	}
	if tree.Included(r.Claim.Head, r.Claim.Size, r.Place, r.Entry, r.Path) != api.OK {
		return api.ErrReceipt
	}
	return api.OK
}

func modelConfirm(r api.Receipt, log []api.Entry) api.Errno {
	if e := modelCheck(r); e != api.OK {
		return e
	}
	if len(log) < r.Claim.Size || tree.Head(log[:r.Claim.Size]) != r.Claim.Head || log[r.Place-1] != r.Entry {
		return api.ErrReceipt
	}
	if results := resultsOf(log[:r.Place]); results[r.Place-1] != r.Result {
		return api.ErrReceipt
	}
	return api.OK
}

// modelAuditor has all that it was told, and works out the rest.
type modelAuditor struct {
	took  []api.Claim // those that were answered OK
	forks []api.Fork
	heard int
}

func (a *modelAuditor) latest() (api.Claim, bool) {
	if len(a.took) == 0 {
		return api.Claim{}, false
	}
	k := a.took[0]
	for _, other := range a.took {
		if other.Size > k.Size {
			k = other
		}
	}
	return k, true
}

func (a *modelAuditor) hear(k api.Claim, path []api.Hash) api.Errno {
	if !modelClaimMayBe(k) {
		return api.ErrClaim
	}
	a.heard++
	if l, any := a.latest(); any {
		if k.Size == l.Size && k.Head != l.Head {
			a.forks = append(a.forks, api.Fork{A: l, B: k})
			return api.ErrFork
		}
		if k.Size > l.Size && tree.Extends(l.Head, l.Size, k.Head, k.Size, path) != api.OK {
			return api.ErrProof
		}
		if k.Size < l.Size && tree.Extends(k.Head, k.Size, l.Head, l.Size, path) != api.OK {
			return api.ErrProof
		}
	}
	a.took = append(a.took, k)
	return api.OK
}

func (a *modelAuditor) take(r api.Receipt, path []api.Hash) api.Errno {
	if e := modelCheck(r); e != api.OK {
		return e
	}
	return a.hear(r.Claim, path)
}

// someLog: one of few logs that may be and have much in common.
func someLog(r *rand.Rand, n int) []api.Entry {
	l := logOf(n)
	if n > 0 && r.IntN(3) == 0 {
		l = otherLog(l, 1+r.IntN(n))
	}
	return l
}

// someStates: so many that may be, of few histories.
func someStates(r *rand.Rand, c api.Config, n int) []api.State {
	var l []api.State
	for range n {
		log := someLog(r, r.IntN(min(c.Room, 9)+1))
		s := pick(r, ups(c, log, r.IntN(len(log)+1))...)
		if r.IntN(8) == 0 {
			s = recovering(c, r.IntN(nodesOf(c)))
		}
		l = append(l, s)
	}
	return l
}

// expectEvidence: P21.4: two claims of one size, with unlike heads, each of which was told.
func expectEvidence(t *testing.T, forks []api.Fork, wasTold func(api.Claim) bool) {
	t.Helper()
	for _, f := range forks {
		if f.A.Size != f.B.Size || f.A.Head == f.B.Head || !wasTold(f.A) || !wasTold(f.B) {
			t.Fatalf("no evidence: %+v", f)
		}
	}
}
