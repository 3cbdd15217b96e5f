package audit_test

import (
	"slices"
	"testing"

	"amnesia/api"
	"amnesia/audit"
)

// What follows: P21.2, P21.3 and P21.4.

// P21.2: Check takes each Receipt, Confirm with the replica's log too.
func TestReceiptsHold(t *testing.T) {
	for n := range 41 {
		for commit := 0; commit <= n; commit += 1 + n/8 {
			for _, s := range ups(five, logOf(n), commit) {
				for place := 1; place <= commit; place += 1 + commit/5 {
					r := expectReceipt(t, five, s, place)
					expectCheck(t, "its own", r, api.OK)
					expectConfirm(t, "its own log", r, s.Log, api.OK)
					expectConfirm(t, "its own history", r, s.Log[:commit], api.OK)
				}
			}
		}
	}
	full := normal(seven, 0, 0, logOf(256), 256)
	for _, place := range []int{1, 2, 255, 256} {
		r := expectReceipt(t, seven, full, place)
		expectCheck(t, "of a full log", r, api.OK)
		expectConfirm(t, "of a full log", r, full.Log, api.OK)
	}
}

// P21.2: Hear takes, behind any claim of a beginning of the same log, the claim of the longer one with Bridge's path, and the other way round.
func TestBridgesAreTaken(t *testing.T) {
	for n := range 41 {
		whole := pick(seeded(uint64(n)), ups(five, logOf(40), n)...)
		for m := range n + 1 {
			part := pick(seeded(uint64(m)), ups(five, logOf(40)[:m], m)...)
			k, begins := expectClaim(t, five, whole), expectClaim(t, five, part)
			path := expectBridge(t, five, whole, m)
			a := audit.New()
			expectHear(t, a, begins, nil, api.OK)
			expectHear(t, a, k, path, api.OK)
			if m == n {
				expectAuditor(t, a, begins, true, 2)
			} else {
				expectAuditor(t, a, k, true, 2)
			}
			a = audit.New()
			expectHear(t, a, k, nil, api.OK)
			expectHear(t, a, begins, path, api.OK)
			expectAuditor(t, a, k, true, 2)
		}
	}
	l := logOf(256)
	whole := normal(seven, 3, 5, l, 256)
	for _, m := range []int{0, 1, 100, 128, 255, 256} {
		a := audit.New()
		expectHear(t, a, claim(l[:m]), nil, api.OK)
		expectHear(t, a, expectClaim(t, seven, whole), expectBridge(t, seven, whole, m), api.OK)
	}
}

// witness hears the claims of states, each with the path that the one with the longer history gives.
type witness struct {
	t     *testing.T
	c     api.Config
	a     *audit.Auditor
	last  api.State // whose claim is the latest
	heard int
}

func witnessOf(t *testing.T, c api.Config) *witness { return &witness{t: t, c: c, a: audit.New()} }

// hears: what the auditor answers; a claim, or a receipt of some place.
func (w *witness) hears(s api.State, place int) api.Errno {
	w.t.Helper()
	k, e := audit.Claim(w.c, s)
	if e != api.OK {
		w.t.Fatal(e)
	}
	var path []api.Hash
	latest, any := w.a.Latest()
	switch {
	case any && latest.Size < k.Size:
		path, e = audit.Bridge(w.c, s, latest.Size)
	case any:
		path, e = audit.Bridge(w.c, w.last, k.Size)
	}
	if e != api.OK {
		w.t.Fatal(e)
	}
	w.heard++
	if place == 0 {
		e = w.a.Hear(k, path)
	} else {
		r, _ := audit.Receipt(w.c, s, place)
		e = w.a.Take(r, path)
	}
	if behind, _ := w.a.Latest(); !any || behind != latest {
		w.last = s
	}
	if w.a.Heard() != w.heard {
		w.t.Fatal(w.a.Heard(), w.heard)
	}
	return e
}

// P21.3: replicas whose histories begin one another have no fork, in whatever order they are heard.
func TestNoForkOfOneHistory(t *testing.T) {
	for seed := range uint64(200) {
		r := seeded(7000 + seed)
		l := logOf(1 + r.IntN(30))
		var all []api.State
		for range 1 + r.IntN(9) {
			log := l[:r.IntN(len(l)+1)]
			commit := pick(r, len(log), r.IntN(len(log)+1))
			if commit < len(log) && r.IntN(2) == 0 {
				log = otherLog(log, commit+1)
			}
			all = append(all, pick(r, ups(five, log, commit)...))
		}
		expectSweep(t, five, all)
		w, most := witnessOf(t, five), 0
		for _, i := range r.Perm(len(all)) {
			if e := w.hears(all[i], r.IntN(all[i].Commit+1)); e != api.OK {
				t.Fatal(e, all[i])
			}
			most = max(most, all[i].Commit)
		}
		if k, is := w.a.Latest(); !is || k.Size != most || len(w.a.Forks()) != 0 {
			t.Fatal(k, is, most, w.a.Forks())
		}
	}
}

// Every order of few, with one in it whose history is another: it is found, whoever comes first.
func TestAForkIsFoundInEveryOrder(t *testing.T) {
	l := logOf(6)
	right := states(normal(five, 0, 0, l, 6), normal(five, 1, 3, l, 4), changing(five, 2, 2, l, 2))
	for at := 1; at <= 6; at++ {
		for commit := at; commit <= 6; commit++ {
			wrong := normal(five, 3, 1, otherLog(l, at), commit)
			if forks, _ := audit.Sweep(five, append(right, wrong)); len(forks) == 0 {
				t.Fatal("Sweep finds none:", at, commit)
			}
			for _, order := range [][]int{{0, 1, 2, 3}, {3, 2, 1, 0}, {1, 3, 0, 2}, {2, 0, 3, 1}, {3, 0, 1, 2}, {2, 1, 3, 0}} {
				w, found := witnessOf(t, five), 0
				all := append(slices.Clone(right), wrong)
				for _, i := range order {
					if e := w.hears(all[i], 0); e == api.ErrFork || e == api.ErrProof {
						found++
					}
				}
				if found == 0 {
					t.Fatal("nothing is found:", at, commit, order)
				}
				expectEvidence(t, w.a.Forks(), func(k api.Claim) bool {
					return slices.ContainsFunc(all, func(s api.State) bool { return told(s, s.Commit) == k })
				})
			}
		}
	}
}

// P21.4: each fork of Sweep, or of an auditor who hears the same replicas, has two claims of one size with unlike heads, each of which was told, or is of a state that was handed in. What the auditor finds Sweep finds too.
func TestWhatIsFoundIsEvidence(t *testing.T) {
	met := make(map[string]int)
	for seed := range uint64(800) {
		r := seeded(8000 + seed)
		all := slices.DeleteFunc(someStates(r, five, 2+r.IntN(8)), func(s api.State) bool { return s.Status == api.StatusRecovering })
		forks, e := audit.Sweep(five, all)
		if e != api.OK {
			t.Fatal(e)
		}
		w := witnessOf(t, five)
		for _, s := range all {
			w.hears(s, r.IntN(s.Commit+1))
		}
		expectEvidence(t, forks, func(k api.Claim) bool {
			return slices.ContainsFunc(all, func(s api.State) bool { return s.Commit >= k.Size && told(s, k.Size) == k })
		})
		expectEvidence(t, w.a.Forks(), func(k api.Claim) bool {
			return slices.ContainsFunc(all, func(s api.State) bool { return told(s, s.Commit) == k })
		})
		for _, f := range w.a.Forks() {
			if !slices.Contains(forks, f) {
				t.Fatal("Sweep does not find it:", f, forks)
			}
		}
		met["swept"] += len(forks)
		met["heard"] += len(w.a.Forks())
	}
	expectEnough(t, met, map[string]int{"swept": 300, "heard": 30})
}
