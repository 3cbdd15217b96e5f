package digest_test

import (
	"bytes"
	"slices"
	"sync"
	"testing"

	"amnesia/api"
	"amnesia/digest"
)

// P19.4, and P2 and P3 of DOC.md: whose memory is whose.

// marked: bytes with marks in the room behind them.
func marked(b []byte) []byte {
	return append(slices.Clone(b), bytes.Repeat([]byte{0xa5}, 150)...)[:len(b)]
}

// whole: bytes with what is in the room behind them.
func whole(b []byte) []byte { return b[:cap(b)] }

func overwrite(b []byte) {
	for i := range whole(b) {
		whole(b)[i] ^= 0xff
	}
}

func TestWhatIsHandedInStays(t *testing.T) {
	for n := range 200 {
		b := marked(some(seeded(uint64(n)), n))
		before := slices.Clone(whole(b))
		digest.Sum(b)
		digest.Join(b, b[:n/2], nil, b[n/2:])
		h := digest.New()
		h.Write(b)
		h.Sum()
		h.Write(b[:n/3])
		h.Sum()
		h.Reset()
		h.Write(b)
		if !bytes.Equal(whole(b), before) {
			t.Fatal("something was changed:", n)
		}
	}
}

// The list of the parts is the caller's, too.
func TestThePartsStay(t *testing.T) {
	r := seeded(70)
	for range 300 {
		b := some(r, r.IntN(400))
		l := cut(r, b, 100)
		mark := []byte("mark")
		long := append(slices.Clone(l), mark, mark, mark)
		digest.Join(long[:len(l)]...)
		for i := range l {
			if !bytes.Equal(long[i], l[i]) || len(l[i]) > 0 && &long[i][0] != &l[i][0] {
				t.Fatal("a part is another:", i)
			}
		}
		for _, x := range long[len(l):] {
			if len(x) != 4 || &x[0] != &mark[0] {
				t.Fatal("a mark is gone")
			}
		}
		if !bytes.Equal(slices.Concat(l...), b) || string(mark) != "mark" {
			t.Fatal("bytes were changed")
		}
	}
}

// What is written over behind a call was not kept.
func TestNothingHandedInIsKept(t *testing.T) {
	for n := range 200 {
		b := marked(some(seeded(uint64(n)), n))
		own := slices.Clone(b)
		sum, joined := digest.Sum(b), digest.Join(b, b)
		h := digest.New()
		h.Write(b)
		overwrite(b)
		expectTaken(t, h, own)
		expectHash(t, "Sum", sum, standard(own))
		expectHash(t, "Join", joined, standard(slices.Concat(own, own)))

		again := marked(own)
		h.Write(again)
		overwrite(again)
		expectTaken(t, h, slices.Concat(own, own))
	}
}

// One list, filled anew for each piece.
func TestOneRoomForAllPieces(t *testing.T) {
	r := seeded(71)
	h := digest.New()
	room := make([]byte, 140)
	var all []byte
	for range 200 {
		n := copy(room, some(r, r.IntN(140)))
		h.Write(room[:n])
		all = append(all, room[:n]...)
		clear(room)
		expectTaken(t, h, all)
	}
}

// What was answered stays, whatever comes behind it; what is done with an answer is nothing to the Hasher.
func TestAnswersStay(t *testing.T) {
	r := seeded(72)
	h := digest.New()
	var all []byte
	var sums, wants []api.Hash
	for range 100 {
		piece := some(r, r.IntN(100))
		h.Write(piece)
		all = append(all, piece...)
		sums, wants = append(sums, h.Sum()), append(wants, standard(all))
		mine := h.Sum()
		clear(mine[:])
	}
	expectTaken(t, h, all)
	h.Reset()
	h.Write(make([]byte, 500))
	if !slices.Equal(sums, wants) {
		t.Fatal("an answer was changed")
	}
}

func TestSameAnswersAgain(t *testing.T) {
	r := seeded(73)
	for range 200 {
		b := some(r, r.IntN(300))
		expectHash(t, "Sum", digest.Sum(slices.Clone(b)), digest.Sum(marked(b)))
		expectHash(t, "Join", digest.Join(cut(r, b, 40)...), digest.Join(cut(r, b, 90)...))
		h := digest.Sum(b)
		if digest.Print(h) != digest.Print(h) {
			t.Fatal("two texts")
		}
	}
}

func TestTwoHashersFedInTurn(t *testing.T) {
	r := seeded(74)
	a, b := digest.New(), digest.New()
	if a == b {
		t.Fatal("New has made one twice")
	}
	var fedA, fedB []byte
	for range 300 {
		h, fed := a, &fedA
		if r.IntN(2) == 0 {
			h, fed = b, &fedB
		}
		if r.IntN(30) == 0 {
			h.Reset()
			*fed = nil
		}
		piece := some(r, r.IntN(140))
		h.Write(piece)
		*fed = append(*fed, piece...)
		expectTaken(t, a, fedA)
		expectTaken(t, b, fedB)
	}
}

// Hashers beside one another, and calls without any, have nothing in common.
func TestManyHashersAtOneTime(t *testing.T) {
	const many = 8
	var wait sync.WaitGroup
	var right [many]bool
	for w := range many {
		wait.Go(func() {
			r := seeded(80 + uint64(w))
			h := digest.New()
			var all []byte
			right[w] = true
			for range 100 {
				piece := some(r, r.IntN(140))
				h.Write(piece)
				all = append(all, piece...)
				right[w] = right[w] && h.Sum() == standard(all) && digest.Sum(piece) == standard(piece) && h.Len() == len(all)
			}
		})
	}
	wait.Wait()
	for w := range right {
		if !right[w] {
			t.Fatal("another digest:", w)
		}
	}
}

// A Hasher that is copied as a value is a second one from there on.
func TestACopyGoesItsOwnWay(t *testing.T) {
	b := some(seeded(75), 200)
	for n := range 131 {
		h := digest.New()
		h.Write(b[:n])
		other := *h
		h.Write([]byte("abc"))
		expectTaken(t, &other, b[:n])
		other.Write(b[n:])
		expectTaken(t, &other, b)
		expectTaken(t, h, append(slices.Clone(b[:n]), "abc"...))
		h.Reset()
		expectTaken(t, &other, b)
	}
}

// What is kept is no more than is needed: in whatever pieces the same bytes came, the same is kept of them; behind Reset nothing.
func TestWhatAHasherKeeps(t *testing.T) {
	for seed := range uint64(300) {
		r := seeded(90000 + seed)
		b := some(r, r.IntN(400))
		pieces, once := digest.New(), digest.New()
		once.Write(b)
		for _, piece := range cut(r, b, 100) {
			pieces.Write(piece)
			pieces.Sum()
		}
		if *pieces != *once {
			t.Fatal("the pieces are to be seen:", seed)
		}
		once.Reset()
		if *once != *digest.New() {
			t.Fatal("something was kept:", seed)
		}
	}
}
