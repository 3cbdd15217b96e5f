package digest_test

import (
	"crypto/sha256"
	"testing"

	"amnesia/api"
	"amnesia/digest"
)

// P19.2: a Hasher.

// expectTaken: a Hasher has taken these bytes, and is asked that without being changed.
func expectTaken(t *testing.T, h *digest.Hasher, b []byte) {
	t.Helper()
	want := standard(b)
	for range 2 {
		if h.Len() != len(b) {
			t.Fatalf("Len: %d, want %d", h.Len(), len(b))
		}
		expectHash(t, "a Hasher", h.Sum(), want)
	}
}

func TestNewHasherIsEmpty(t *testing.T) {
	expectTaken(t, digest.New(), nil)
}

func TestHasherOfWhatIsPublished(t *testing.T) {
	for _, p := range published {
		h := digest.New()
		h.Write([]byte(p.bytes))
		if s := digest.Print(h.Sum()); s != p.text || h.Len() != len(p.bytes) {
			t.Fatal(s, p.text, h.Len())
		}
	}
}

// Pieces of every length, one behind the other; what is asked behind each of them changes nothing.
func TestPiecesOfEveryLength(t *testing.T) {
	r := seeded(40)
	for _, asks := range []bool{true, false} {
		h := digest.New()
		var all []byte
		for n := range 131 {
			piece := some(r, n)
			h.Write(piece)
			all = append(all, piece...)
			if asks {
				expectTaken(t, h, all)
			}
		}
		expectTaken(t, h, all)
	}
}

func TestPiecesOfEveryLengthFalling(t *testing.T) {
	r := seeded(41)
	h := digest.New()
	var all []byte
	for n := range 131 {
		piece := some(r, 130-n)
		h.Write(piece)
		all = append(all, piece...)
		expectTaken(t, h, all)
	}
}

// A piece of every length behind every filling of a block.
func TestEveryPieceBehindEveryBeginning(t *testing.T) {
	b := some(seeded(42), 260)
	for first := range 131 {
		for second := range 130 {
			h := digest.New()
			h.Write(b[:first])
			h.Write(b[first : first+second])
			expectTaken(t, h, b[:first+second])
		}
	}
}

func TestBytesCutAtEveryPlace(t *testing.T) {
	b := some(seeded(43), 130)
	want := standard(b)
	for i := range 131 {
		for j := i; j < 131; j++ {
			h := digest.New()
			h.Write(b[:i])
			h.Write(b[i:j])
			h.Write(b[j:])
			if h.Len() != 130 {
				t.Fatal(i, j, h.Len())
			}
			expectHash(t, "cut", h.Sum(), want)
		}
	}
}

func TestByteByByte(t *testing.T) {
	b := some(seeded(44), 400)
	h := digest.New()
	for i := range b {
		expectTaken(t, h, b[:i])
		h.Write(b[i : i+1])
	}
	expectTaken(t, h, b)
}

func TestPiecesWithoutBytes(t *testing.T) {
	b := some(seeded(45), 200)
	for _, none := range [][]byte{nil, {}, b[:0]} {
		h := digest.New()
		h.Write(none)
		expectTaken(t, h, nil)
		for i := range b {
			h.Write(b[i : i+1])
			h.Write(none)
			expectTaken(t, h, b[:i+1])
		}
	}
}

// Bytes in drawn pieces, with drawn questions between.
func TestDrawnPieces(t *testing.T) {
	for seed := range uint64(400) {
		r := seeded(50000 + seed)
		b := some(r, r.IntN(2000))
		h := digest.New()
		taken := 0
		for _, piece := range cut(r, b, 1+r.IntN(300)) {
			h.Write(piece)
			taken += len(piece)
			for range r.IntN(3) {
				expectHash(t, "between", h.Sum(), standard(b[:taken]))
			}
			if r.IntN(2) == 0 && h.Len() != taken {
				t.Fatal(seed, h.Len(), taken)
			}
		}
		expectTaken(t, h, b)
		expectHash(t, "at once", digest.Sum(b), h.Sum())
	}
}

// Bytes whose bits take more than 32 bits to count.
func TestMoreBitsThanAWordCounts(t *testing.T) {
	if testing.Short() {
		t.Skip("some seconds")
	}
	h, want := digest.New(), sha256.New()
	piece := some(seeded(48), 1<<20)
	for range 1 << 9 {
		h.Write(piece)
		want.Write(piece)
	}
	h.Write([]byte("abc"))
	want.Write([]byte("abc"))
	if h.Len() != 1<<29+3 {
		t.Fatal(h.Len())
	}
	expectHash(t, "2^29 bytes and some", h.Sum(), api.Hash(want.Sum(nil)))
}

func TestResetIsAsNew(t *testing.T) {
	r := seeded(46)
	for _, n := range []int{0, 1, 5, 31, 55, 56, 57, 63, 64, 65, 100, 119, 120, 127, 128, 129, 1000} {
		h := digest.New()
		h.Write(some(r, n))
		h.Reset()
		expectTaken(t, h, nil)
		h.Reset()
		expectTaken(t, h, nil)
		b := some(r, 150)
		for i, x := range b {
			h.Write([]byte{x})
			expectTaken(t, h, b[:i+1])
		}
		h.Reset()
		h.Write(b)
		expectTaken(t, h, b)
	}
}

// Whatever was asked ahead of it, a Reset forgets everything.
func TestResetBehindQuestions(t *testing.T) {
	for n := range 131 {
		h := digest.New()
		h.Write(some(seeded(47), n))
		h.Sum()
		h.Len()
		h.Reset()
		h.Write([]byte("abc"))
		expectTaken(t, h, []byte("abc"))
	}
}

// A Hasher's life, drawn, against the bytes themselves.
func TestDrawnLives(t *testing.T) {
	for seed := range uint64(300) {
		r := seeded(60000 + seed)
		h := digest.New()
		var all []byte
		for range 40 {
			switch r.IntN(8) {
			case 0:
				h.Reset()
				all = nil
			case 1, 2:
				expectTaken(t, h, all)
			default:
				piece := some(r, r.IntN(140))
				h.Write(piece)
				all = append(all, piece...)
			}
		}
		expectTaken(t, h, all)
	}
}

// P1 of DOC.md: a Hasher that New did not make.

func expectIdle(t *testing.T, h *digest.Hasher) {
	t.Helper()
	if h.Len() != 0 {
		t.Fatal(h.Len())
	}
	expectHash(t, "one that was not made", h.Sum(), api.Hash{})
}

func TestHasherThatNewDidNotMake(t *testing.T) {
	var zero digest.Hasher
	var held struct{ inner [2]digest.Hasher }
	for _, h := range []*digest.Hasher{nil, &zero, {}, new(digest.Hasher), &held.inner[1]} {
		expectIdle(t, h)
		for _, b := range [][]byte{nil, {}, []byte("a"), make([]byte, 55), make([]byte, 64), make([]byte, 1000)} {
			h.Write(b)
			expectIdle(t, h)
			h.Reset()
			expectIdle(t, h)
			h.Write(b)
			expectIdle(t, h)
		}
	}
	if zero != (digest.Hasher{}) || held.inner != [2]digest.Hasher{} {
		t.Fatal("a zero value was changed")
	}
}
