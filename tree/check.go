package tree

import "amnesia/api"

// Included: does the entry stand there under the head? ErrSize: there is no such size; ErrPlace: it has no such place; ErrProof: the path is not as long as that place's; ErrHead: it comes to another head.
func Included(head api.Hash, size, place int, e api.Entry, path []api.Hash) api.Errno {
	switch {
	case size < 1:
		return api.ErrSize
	case place < 1 || place > size:
		return api.ErrPlace
	case len(path) != stepsUp(place, size):
		return api.ErrProof
	case climb(Leaf(e), place, size, path) != head:
		return api.ErrHead
	}
	return api.OK
}

// stepsUp: how long pathUp is.
func stepsUp(place, size int) int {
	if size == 1 {
		return 0
	}
	k := left(size)
	if place <= k {
		return 1 + stepsUp(place, k)
	}
	return 1 + stepsUp(place-k, size-k)
}

// climb: the head that one comes to from a leaf by a path that is as long as pathUp.
func climb(leaf api.Hash, place, size int, path []api.Hash) api.Hash {
	if size == 1 {
		return leaf
	}
	k := left(size)
	below, beside := parted(path)
	if place <= k {
		return Node(climb(leaf, place, k, below), beside)
	}
	return Node(beside, climb(leaf, place-k, size-k, below))
}

// parted: a path without its last digest, which is the highest, and that digest.
func parted(path []api.Hash) ([]api.Hash, api.Hash) {
	top := len(path) - 1
	return path[:top], path[top]
}

// Extends: is the one head's log, of m entries, a beginning of the other's, of n? ErrSize: there are no such sizes; ErrProof: the path is not as long as theirs; ErrHead: it comes to another head.
func Extends(old api.Hash, m int, head api.Hash, n int, path []api.Hash) api.Errno {
	switch {
	case m < 0 || n < m:
		return api.ErrSize
	case len(path) != stepsBetween(m, n):
		return api.ErrProof
	case !joined(old, m, head, n, path):
		return api.ErrHead
	}
	return api.OK
}

// stepsBetween: how long Consistency's path is.
func stepsBetween(m, n int) int {
	if m == 0 {
		return 0
	}
	return stepsAcross(m, n, true)
}

// stepsAcross: how long pathAcross is.
func stepsAcross(m, n int, whole bool) int {
	if m == n {
		if whole {
			return 0
		}
		return 1
	}
	k := left(n)
	if m <= k {
		return 1 + stepsAcross(m, k, whole)
	}
	return 1 + stepsAcross(m-k, n-k, false)
}

// joined: do the heads fit a path that is as long as Consistency's? No entries are a beginning of every log, so that with m 0 there is nothing to ask of the head of one that has some.
func joined(old api.Hash, m int, head api.Hash, n int, path []api.Hash) bool {
	switch m {
	case 0:
		none := headOf(nil)
		return old == none && (n > 0 || head == none)
	case n:
		return old == head
	}
	first, all := climbBoth(old, m, n, true, path)
	return first == old && all == head
}

// climbBoth: the Head of the first m of n, and that of all n, that one comes to by a path that is as long as pathAcross. Where whole holds at the end of the way down, the old head itself stands there.
func climbBoth(old api.Hash, m, n int, whole bool, path []api.Hash) (api.Hash, api.Hash) {
	if m == n {
		if whole {
			return old, old
		}
		return path[0], path[0]
	}
	k := left(n)
	below, beside := parted(path)
	if m <= k {
		first, all := climbBoth(old, m, k, whole, below)
		return first, Node(all, beside)
	}
	first, all := climbBoth(old, m-k, n-k, false, below)
	return Node(beside, first), Node(beside, all)
}
