package tally

import (
	"slices"

	"amnesia/api"
	"amnesia/nonce"
)

// vote is all that putting and pruning ask of a vote: who gave it, in which life, and whether it says more than an older one of that life.
type vote[V any] interface {
	node() int
	draw() api.Draw
	greater(old V) bool
}

// votes is a list of votes of one kind. The list is this layer's own, so it may be changed; the Logs within are those that were handed in, and are not.
type votes[V vote[V]] []V

// checked is a vote that knows whether it may stand in a list, among n replicas.
type checked[V any] interface {
	vote[V]
	mayBe(n, room int) bool
}

// hold: votes as this layer has them.
func hold[A any, V vote[V]](l []A, as func(A) V) votes[V] {
	held := make(votes[V], len(l))
	for i, a := range l {
		held[i] = as(a)
	}
	return held
}

// tell: votes as callers have them. Each comes through as, which gives it memory of its own.
func tell[A any, V vote[V]](held votes[V], as func(V) A) []A {
	told := make([]A, len(held))
	for i, v := range held {
		told[i] = as(v)
	}
	return told
}

// check: may these votes be, held by the replica self?
func check[V checked[V]](c api.Config, self int, l votes[V]) api.Errno {
	if !configMayBe(c) {
		return api.ErrConfig
	}
	n := 2*c.F + 1
	least := 0
	for _, v := range l {
		if v.node() < least || v.node() >= n || v.node() == self || !v.mayBe(n, c.Room) {
			return api.ErrTally
		}
		least = v.node() + 1
	}
	return api.OK
}

// configMayBe asks for what votes hang on: neither the patience nor whether crash vectors are looked at.
func configMayBe(c api.Config) bool {
	return c.F >= 1 && c.F <= api.MaxF && c.Room >= 1 && c.Room <= api.MaxLog
}

// put: the votes with one more, or with it in the place of the older one of its replica.
func put[V vote[V]](l votes[V], v V) votes[V] {
	at := slices.IndexFunc(l, func(old V) bool { return old.node() == v.node() })
	switch {
	case at < 0:
		return insert(l, v)
	case replaces(v, l[at]):
		l[at] = v
	}
	return l
}

// insert: the votes with one ahead of the first of a greater node.
func insert[V vote[V]](l votes[V], v V) votes[V] {
	at := slices.IndexFunc(l, func(other V) bool { return other.node() > v.node() })
	if at < 0 {
		at = len(l)
	}
	return slices.Insert(l, at, v)
}

// replaces: is v of a later life than old, or of the same and greater?
func replaces[V vote[V]](v, old V) bool {
	order := nonce.Compare(v.draw(), old.draw())
	return order > 0 || order == 0 && v.greater(old)
}

// prune: the votes of lives that v does not know to be over.
func prune[V vote[V]](l votes[V], v api.Vector) votes[V] {
	return slices.DeleteFunc(l, func(given V) bool { return isOver(v, given.node(), given.draw()) })
}

// isOver: does v have a later draw of node? Of a node that it has no entry for it knows nothing.
func isOver(v api.Vector, node int, d api.Draw) bool {
	return node >= 0 && node < len(v) && nonce.Compare(d, v[node]) < 0
}
