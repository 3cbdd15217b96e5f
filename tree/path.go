package tree

import "amnesia/api"

// Inclusion: the path of a place. ErrPlace: the log does not have it.
func Inclusion(l []api.Entry, place int) ([]api.Hash, api.Errno) {
	return inclusion(leavesOf(l), place)
}

// Consistency: the path from the first entries to all. ErrSize: the log has not as many.
func Consistency(l []api.Entry, size int) ([]api.Hash, api.Errno) {
	return consistency(leavesOf(l), size)
}

func inclusion(leaves []api.Hash, place int) ([]api.Hash, api.Errno) {
	if place < 1 || place > len(leaves) {
		return nil, api.ErrPlace
	}
	return pathUp(leaves, place), api.OK
}

// pathUp: what stands beside the way from a place up to the head, the lowest first.
func pathUp(leaves []api.Hash, place int) []api.Hash {
	if len(leaves) == 1 {
		return nil
	}
	k := left(len(leaves))
	if place <= k {
		return append(pathUp(leaves[:k], place), headOf(leaves[k:]))
	}
	return append(pathUp(leaves[k:], place-k), headOf(leaves[:k]))
}

func consistency(leaves []api.Hash, size int) ([]api.Hash, api.Errno) {
	switch {
	case size < 0 || size > len(leaves):
		return nil, api.ErrSize
	case size == 0:
		return nil, api.OK
	}
	return pathAcross(leaves, size, true), api.OK
}

// pathAcross: what the Head of the first m, and that of all, are made of. Where whole holds, the first m of these leaves are the first m of all: who checks the path has their Head.
func pathAcross(leaves []api.Hash, m int, whole bool) []api.Hash {
	if m == len(leaves) {
		if whole {
			return nil
		}
		return []api.Hash{headOf(leaves)}
	}
	k := left(len(leaves))
	if m <= k {
		return append(pathAcross(leaves[:k], m, whole), headOf(leaves[k:]))
	}
	return append(pathAcross(leaves[k:], m-k, false), headOf(leaves[:k]))
}
