package tree_test

import (
	"bytes"
	"crypto/sha256"
	"encoding/binary"
	"math/bits"
	"slices"

	"amnesia/api"
)

// What chapter 20 says, written once more, over the standard library's digest.

// numbered puts a number's form (chapter 1) behind b.
func numbered(b []byte, v uint64) []byte {
	short := bytes.TrimLeft(binary.BigEndian.AppendUint64(nil, v), "\x00")
	return append(append(b, byte(len(short))), short...)
}

func modelLeaf(e api.Entry) api.Hash {
	b := []byte{0}
	b = numbered(b, uint64(e.Client))
	b = numbered(b, uint64(e.Number))
	b = numbered(b, uint64(e.Op.Kind))
	b = numbered(b, uint64(e.Op.Slot))
	b = numbered(b, uint64(len(e.Op.Value)))
	return sha256.Sum256(append(b, e.Op.Value...))
}

func modelNode(a, b api.Hash) api.Hash {
	return sha256.Sum256(slices.Concat([]byte{1}, a[:], b[:]))
}

// below: the greatest power of two below n, which is above 1.
func below(n int) int {
	k := 1
	for k < n-k {
		k *= 2
	}
	return k
}

// heads tells the Head of the n entries that stand behind the first from of some log.
type heads func(from, n int) api.Hash

// listed: the heads of a log that is a list.
func listed(l []api.Entry) heads {
	var h heads
	h = func(from, n int) api.Hash {
		switch n {
		case 0:
			return sha256.Sum256(nil)
		case 1:
			return modelLeaf(l[from])
		}
		k := below(n)
		return modelNode(h(from, k), h(from+k, n-k))
	}
	return h
}

// great: the heads of a log of any length at all, whose entries are all alike but for some.
func great(common api.Entry, others map[int]api.Entry) heads {
	leaf, none := modelLeaf(common), api.Hash(sha256.Sum256(nil))
	alike := map[int]api.Hash{0: none, 1: leaf} // by length, of entries that are all alike
	var h heads
	h = func(from, n int) api.Hash {
		same := true
		for place := range others {
			same = same && (place-1 < from || place-1-from >= n)
		}
		if known, ok := alike[n]; same && ok {
			return known
		}
		if n == 1 {
			return modelLeaf(others[from+1])
		}
		k := below(n)
		d := modelNode(h(from, k), h(from+k, n-k))
		if same {
			alike[n] = d
		}
		return d
	}
	return h
}

func modelHead(l []api.Entry) api.Hash { return listed(l)(0, len(l)) }

// modelInclusion: P20.2, of the n entries behind the first from.
func modelInclusion(h heads, from, n, place int) []api.Hash {
	if n == 1 {
		return nil
	}
	k := below(n)
	if place <= k {
		return append(modelInclusion(h, from, k, place), h(from+k, n-k))
	}
	return append(modelInclusion(h, from+k, n-k, place-k), h(from, k))
}

// modelConsistency: P20.3, of a log's first n entries.
func modelConsistency(h heads, m, n int) []api.Hash {
	if m == 0 || m == n {
		return nil
	}
	return modelS(h, 0, m, n, true)
}

func modelS(h heads, from, m, j int, whole bool) []api.Hash {
	if m == j {
		if whole {
			return nil
		}
		return []api.Hash{h(from, j)}
	}
	k := below(j)
	if m <= k {
		return append(modelS(h, from, m, k, whole), h(from+k, j-k))
	}
	return append(modelS(h, from+k, m-k, j-k, false), h(from, k))
}

// walk goes up a tree by the binary digits of a place and of the last one, both counted from 0 on: the way in which others (RFC 9162) check such paths. It shares nothing with going down by halves.
type walk struct {
	at, last uint64
}

// step: on which side the next digest stands; false: there is none, since this is the head.
func (w *walk) step() (onLeft, ok bool) {
	if w.last == 0 {
		return false, false
	}
	onLeft = w.at&1 == 1 || w.at == w.last
	if onLeft && w.at&1 == 0 {
		up := bits.TrailingZeros64(w.at)
		w.at, w.last = w.at>>up, w.last>>up
	}
	w.at, w.last = w.at>>1, w.last>>1
	return onLeft, true
}

// modelIncluded: P20.4.
func modelIncluded(head api.Hash, size, place int, e api.Entry, path []api.Hash) api.Errno {
	switch {
	case size < 1:
		return api.ErrSize
	case place < 1 || place > size:
		return api.ErrPlace
	}
	w := walk{uint64(place - 1), uint64(size - 1)}
	d := modelLeaf(e)
	for _, p := range path {
		onLeft, ok := w.step()
		switch {
		case !ok:
			return api.ErrProof
		case onLeft:
			d = modelNode(p, d)
		default:
			d = modelNode(d, p)
		}
	}
	switch {
	case w.last != 0:
		return api.ErrProof
	case d != head:
		return api.ErrHead
	}
	return api.OK
}

// modelExtends: P20.5.
func modelExtends(old api.Hash, m int, head api.Hash, n int, path []api.Hash) api.Errno {
	none := api.Hash(sha256.Sum256(nil))
	switch {
	case m < 0 || n < m:
		return api.ErrSize
	case m > 0 && m < n:
		return modelJoined(old, m, head, n, path)
	case len(path) > 0:
		return api.ErrProof
	case m == 0 && old != none, m == 0 && n == 0 && head != none, m == n && old != head:
		return api.ErrHead
	}
	return api.OK
}

func modelJoined(old api.Hash, m int, head api.Hash, n int, path []api.Hash) api.Errno {
	if m&(m-1) == 0 {
		path = append([]api.Hash{old}, path...)
	}
	if len(path) == 0 {
		return api.ErrProof
	}
	low := bits.TrailingZeros64(uint64(m))
	w := walk{uint64(m-1) >> low, uint64(n-1) >> low}
	first, all := path[0], path[0]
	for _, p := range path[1:] {
		onLeft, ok := w.step()
		switch {
		case !ok:
			return api.ErrProof
		case onLeft:
			first, all = modelNode(p, first), modelNode(p, all)
		default:
			all = modelNode(all, p)
		}
	}
	switch {
	case w.last != 0:
		return api.ErrProof
	case first != old || all != head:
		return api.ErrHead
	}
	return api.OK
}
