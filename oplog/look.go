package oplog

import (
	"iter"

	"amnesia/api"
	"amnesia/ledger"
)

// Common: the length of the longest beginning that two logs share.
func Common(a, b []api.Entry) int {
	shorter := min(len(a), len(b))
	for place, entry := range Each(a[:shorter:shorter], 1) {
		if entry != b[place-1] {
			return place - 1
		}
	}
	return shorter
}

// Begins: is a a beginning of b?
func Begins(a, b []api.Entry) bool { return Common(a, b) == len(a) }

// Agree: are the first n entries of both the same? False, if one has not so many.
func Agree(a, b []api.Entry, n int) bool { return n >= 0 && n <= Common(a, b) }

// Find: the first place of a client's request; 0: nowhere.
func Find(l []api.Entry, client, number int) int {
	for place, entry := range Each(l, 1) {
		if entry.Client == client && entry.Number == number {
			return place
		}
	}
	return 0
}

// Last: a client's greatest number; 0: none above 0.
func Last(l []api.Entry, client int) int {
	greatest := 0
	for _, entry := range Each(l, 1) {
		if entry.Client == client {
			greatest = max(greatest, entry.Number)
		}
	}
	return greatest
}

// Replay: the first n entries, played into a new ledger: its cells, and their results. ErrPlace: there are not so many.
func Replay(l []api.Entry, n int) ([]api.Cell, []api.Result, api.Errno) {
	if n < 0 || n > len(l) {
		return nil, nil, api.ErrPlace
	}
	ops := make([]api.Op, 0, n)
	for _, entry := range Each(l[:n:n], 1) {
		ops = append(ops, entry.Op)
	}
	cells, results := ledger.Replay(ops)
	return cells, results, api.OK
}

// Each goes over the places from one on (over all, if it is below 1), as the log is now: place and entry.
func Each(l []api.Entry, from int) iter.Seq2[int, api.Entry] {
	first := min(max(from, 1), len(l)+1)
	kept := lay(l[first-1 : len(l) : len(l)])
	return func(yield func(int, api.Entry) bool) {
		if yield == nil {
			return
		}
		for i, entry := range kept {
			if !yield(first+i, entry) {
				return
			}
		}
	}
}
