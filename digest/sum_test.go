package digest_test

import (
	"bytes"
	"testing"

	"amnesia/api"
	"amnesia/digest"
)

// P19.1: Sum and Join.

func TestSumOfWhatIsPublished(t *testing.T) {
	for _, p := range published {
		want, e, _ := digest.Parse(p.text)
		if e != api.OK {
			t.Fatal(p.text)
		}
		b := []byte(p.bytes)
		expectHash(t, p.text, digest.Sum(b), want)
		expectHash(t, p.text, digest.Join(b), want)
		if s := digest.Print(digest.Sum(b)); s != p.text {
			t.Fatal(s, p.text)
		}
	}
}

func TestSumOfNothing(t *testing.T) {
	want := standard(nil)
	expectHash(t, "nil", digest.Sum(nil), want)
	expectHash(t, "empty", digest.Sum([]byte{}), want)
	expectHash(t, "empty, with room", digest.Sum([]byte("abc")[:0]), want)
}

func TestSumOfAnyLength(t *testing.T) {
	r := seeded(1)
	for n := range 700 {
		b := some(r, n)
		expectHash(t, "drawn", digest.Sum(b), standard(b))
	}
	for _, n := range lengths {
		for _, b := range [][]byte{some(r, n), make([]byte, n), bytes.Repeat([]byte{255}, n), bytes.Repeat([]byte{128}, n)} {
			expectHash(t, "of the edges", digest.Sum(b), standard(b))
		}
	}
}

// Each bit of a block, and of the next one, has its part in the digest.
func TestSumOfEachBit(t *testing.T) {
	for bit := range 130 * 8 {
		b := make([]byte, 130)
		b[bit/8] = 1 << (bit % 8)
		expectHash(t, "one bit", digest.Sum(b), standard(b))
	}
}

// The number of the bits takes up more than one, two, three of its bytes.
func TestSumOfMany(t *testing.T) {
	r := seeded(2)
	for _, n := range []int{31, 32, 8191, 8192, 8193, 2097151, 2097152, 2097153} {
		b := some(r, n)
		expectHash(t, "many", digest.Sum(b), standard(b))
	}
}

func TestJoinOfNothing(t *testing.T) {
	want := standard(nil)
	expectHash(t, "no parts", digest.Join(), want)
	expectHash(t, "nil for a list", digest.Join([][]byte(nil)...), want)
	expectHash(t, "an empty list", digest.Join([][]byte{}...), want)
	expectHash(t, "a nil part", digest.Join(nil), want)
	expectHash(t, "nil parts", digest.Join(nil, nil, nil), want)
	expectHash(t, "empty parts", digest.Join([]byte{}, nil, []byte{}), want)
}

// Parts without bytes, wherever they stand, are nothing.
func TestJoinOfEmptyParts(t *testing.T) {
	a, b := some(seeded(3), 70), some(seeded(4), 61)
	want := standard(append(append([]byte{}, a...), b...))
	for _, none := range [][]byte{nil, {}, a[:0], a[70:]} {
		expectHash(t, "ahead", digest.Join(none, a, b), want)
		expectHash(t, "between", digest.Join(a, none, b), want)
		expectHash(t, "behind", digest.Join(a, b, none), want)
		expectHash(t, "everywhere", digest.Join(none, none, a, none, none, b, none, none), want)
	}
}

func TestJoinOfPartsCutAtEveryPlace(t *testing.T) {
	b := some(seeded(5), 130)
	want := standard(b)
	for i := range 131 {
		expectHash(t, "two parts", digest.Join(b[:i], b[i:]), want)
		for j := i; j < 131; j++ {
			expectHash(t, "three parts", digest.Join(b[:i], b[i:j], b[j:]), want)
		}
	}
}

func TestJoinInOrder(t *testing.T) {
	if digest.Join(parts("a", "bc")...) == digest.Join(parts("bc", "a")...) {
		t.Fatal("the parts' order is not kept")
	}
	for seed := range uint64(300) {
		r := seeded(1000 + seed)
		b := some(r, r.IntN(600))
		expectHash(t, "drawn", digest.Join(cut(r, b, 1+r.IntN(150))...), standard(b))
	}
}

func TestJoinOfManyParts(t *testing.T) {
	b := some(seeded(6), 5000)
	var single [][]byte
	for i := range b {
		single = append(single, b[i:i+1])
	}
	expectHash(t, "byte by byte", digest.Join(single...), standard(b))
}
