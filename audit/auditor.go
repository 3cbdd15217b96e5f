package audit

import (
	"slices"

	"amnesia/api"
	"amnesia/tree"
)

// Auditor hears claims. New makes one.
type Auditor struct {
	latest   latest
	question func(k api.Claim, path []api.Hash) api.Errno // what is asked of the next claim: the latest one's method. One that New did not make has none.
	forks    []api.Fork
	heard    int
}

// latest is the claim that others are held against: the first of the greatest size among those that were taken.
type latest struct {
	claim api.Claim
	taken bool // false: there is none yet
}

// New: one who has heard nothing.
func New() *Auditor {
	a := &Auditor{}
	a.hold(latest{})
	return a
}

// Hear: a claim, and the path between it and the latest. ErrMade: New did not make the auditor; ErrClaim: the claim may not be; ErrFork: it is of the latest's size, and not of its history; ErrProof: the path does not lead from the lesser of the two to the greater.
func (a *Auditor) Hear(k api.Claim, path []api.Hash) api.Errno {
	switch {
	case !a.made():
		return api.ErrMade
	case !claimMayBe(k):
		return api.ErrClaim
	}
	a.heard++
	e := a.question(k, path)
	switch {
	case e == api.ErrFork:
		a.forks = append(a.forks, api.Fork{A: a.latest.claim, B: k})
	case e == api.OK && a.latest.givesWay(k):
		a.hold(latest{claim: k, taken: true})
	}
	return e
}

// Take: a receipt, and the path between its claim and the latest. ErrMade: New did not make the auditor; Check's errors; Hear's.
func (a *Auditor) Take(r api.Receipt, path []api.Hash) api.Errno {
	if !a.made() {
		return api.ErrMade
	}
	if e := Check(r); e != api.OK {
		return e
	}
	return a.Hear(r.Claim, path)
}

// Latest: the latest claim; false, if none was taken.
func (a *Auditor) Latest() (api.Claim, bool) {
	if !a.made() {
		return api.Claim{}, false
	}
	return a.latest.claim, a.latest.taken
}

// Forks: the evidence, in the order in which it was heard.
func (a *Auditor) Forks() []api.Fork {
	if !a.made() {
		return nil
	}
	return slices.Clone(a.forks)
}

// Heard: how many claims were counted.
func (a *Auditor) Heard() int {
	if !a.made() {
		return 0
	}
	return a.heard
}

func (a *Auditor) made() bool { return a != nil && a.question != nil }

// hold makes a claim the latest: from now on the next ones are held against it.
func (a *Auditor) hold(l latest) { a.latest, a.question = l, l.ask }

// ask: does a claim fit the latest, by the path between them? The path is asked only where their sizes are unlike.
func (l latest) ask(k api.Claim, path []api.Hash) api.Errno {
	switch {
	case !l.taken || sameHistory(l.claim, k):
		return api.OK
	case l.claim.Size < k.Size:
		return leads(l.claim, k, path)
	case l.claim.Size > k.Size:
		return leads(k, l.claim, path)
	}
	return api.ErrFork
}

// givesWay: is a claim that fits it the latest from now on?
func (l latest) givesWay(k api.Claim) bool { return !l.taken || l.claim.Size < k.Size }

// leads: is the one claim's history a beginning of the other's, by the path? ErrProof: the path does not show it.
func leads(old, k api.Claim, path []api.Hash) api.Errno {
	if tree.Extends(old.Head, old.Size, k.Head, k.Size, path) != api.OK {
		return api.ErrProof
	}
	return api.OK
}
