package wire_test

import (
	"bytes"
	"hash/crc32"
	"math/bits"
	"math/rand/v2"
	"slices"
	"testing"

	"amnesia/api"
	"amnesia/wire"
)

// most is the greatest length of a body.
const most = api.MaxFrame - 12

func source() *rand.Rand {
	return rand.New(rand.NewPCG(1, 2))
}

func someBytes(r *rand.Rand, n int) []byte {
	b := make([]byte, n)
	for i := range b {
		b[i] = byte(r.Uint32())
	}
	return b
}

func sealed(t *testing.T, body []byte) []byte {
	t.Helper()
	f, e := wire.Seal(body)
	if e != api.OK {
		t.Fatalf("Seal of %d bytes: %d", len(body), e)
	}
	return f
}

// framed lays a frame down by hand, with the length that is told and a sum that fits.
func framed(magic string, told uint32, body []byte) []byte {
	f := append([]byte(magic), byte(told>>24), byte(told>>16), byte(told>>8), byte(told))
	f = append(f, body...)
	s := crc32.ChecksumIEEE(f)
	return append(f, byte(s), byte(s>>8), byte(s>>16), byte(s>>24))
}

// P1.1: Sum.

func TestSumOfKnownBytes(t *testing.T) {
	for _, c := range []struct {
		text string
		want uint32
	}{
		{"", 0},
		{"123456789", 0xCBF43926},
		{"\x00", 0xD202EF8D},
		{"\xff", 0xFF000000},
		{"a", 0xE8B7BE43},
		{"\x00\x00\x00\x00", 0x2144DF1C},
		{"\xff\xff\xff\xff", 0xFFFFFFFF},
	} {
		if got := wire.Sum([]byte(c.text)); got != c.want {
			t.Errorf("Sum(%q) = %#x, want %#x", c.text, got, c.want)
		}
	}
	if got := wire.Sum(nil); got != 0 {
		t.Errorf("Sum(nil) = %#x", got)
	}
}

func TestSumOfAllBytes(t *testing.T) {
	r := source()
	for n := range 300 {
		b := someBytes(r, n)
		if got, want := wire.Sum(b), crc32.ChecksumIEEE(b); got != want {
			t.Fatalf("Sum(%v) = %#x, want %#x", b, got, want)
		}
	}
	for x := range 256 {
		b := []byte{byte(x)}
		if got, want := wire.Sum(b), crc32.ChecksumIEEE(b); got != want {
			t.Fatalf("Sum(%v) = %#x, want %#x", b, got, want)
		}
	}
	long := someBytes(r, 3*api.MaxFrame)
	if got, want := wire.Sum(long), crc32.ChecksumIEEE(long); got != want {
		t.Fatalf("Sum of many = %#x, want %#x", got, want)
	}
}

// P1.1: Seal.

func TestSealLaysAFrameDown(t *testing.T) {
	f := sealed(t, nil)
	if want := []byte{97, 109, 110, 49, 0, 0, 0, 0, 117, 173, 189, 61}; !slices.Equal(f, want) {
		t.Fatalf("Seal(nil) = %v", f)
	}
	if !slices.Equal(f, sealed(t, []byte{})) {
		t.Fatal("nil and no bytes differ")
	}
	r := source()
	for _, n := range []int{0, 1, 2, 9, 255, 256, 257, 4096, most - 1, most} {
		body := someBytes(r, n)
		if f := sealed(t, body); !slices.Equal(f, framed("amn1", uint32(n), body)) {
			t.Errorf("Seal of %d bytes is another frame", n)
		}
	}
}

func TestSealRefusesTooLong(t *testing.T) {
	if f := sealed(t, make([]byte, most)); len(f) != api.MaxFrame {
		t.Fatalf("the greatest frame has %d bytes", len(f))
	}
	for _, n := range []int{most + 1, most + 12, api.MaxFrame + 1, 1 << 20} {
		if f, e := wire.Seal(make([]byte, n)); e != api.ErrLong || f != nil {
			t.Errorf("Seal of %d bytes: %d bytes, %d", n, len(f), e)
		}
	}
}

// P1.1: Open, with the order of its errors.

func TestOpenErrors(t *testing.T) {
	body := []byte("body")
	good := sealed(t, body)
	with := func(at int, x byte) []byte {
		f := slices.Clone(good)
		f[at] ^= x
		return f
	}
	full := framed("amn1", most, make([]byte, most))
	for _, c := range []struct {
		name  string
		frame []byte
		want  api.Errno
	}{
		{"nil", nil, api.ErrShort},
		{"no bytes", []byte{}, api.ErrShort},
		{"the magic alone", []byte("amn1"), api.ErrShort},
		{"eleven bytes", good[:11], api.ErrShort},
		{"eleven other bytes", []byte("xxxxxxxxxxx"), api.ErrShort},
		{"twelve other bytes", []byte("xxxxxxxxxxxx"), api.ErrMagic},
		{"magic and length and sum wrong", []byte("amn2\xff\xff\xff\xffxxxx"), api.ErrMagic},
		{"magic with a sum that fits", framed("amn0", 4, body), api.ErrMagic},
		{"magic and tail", framed("bmn1", 3, body), api.ErrMagic},
		{"first byte", with(0, 1), api.ErrMagic},
		{"second byte", with(1, 128), api.ErrMagic},
		{"third byte", with(2, 2), api.ErrMagic},
		{"fourth byte", with(3, 255), api.ErrMagic},
		{"one byte more told", framed("amn1", 5, body), api.ErrShort},
		{"more told, sum wrong", with(7, 1), api.ErrShort},
		{"the greatest length told", framed("amn1", 1<<32-1, body), api.ErrShort},
		{"a length that wraps with 12", framed("amn1", 1<<32-12+4, body), api.ErrShort},
		{"2^31 told", framed("amn1", 1<<31, body), api.ErrShort},
		{"a high byte told", framed("amn1", 4+1<<24, body), api.ErrShort},
		{"cut by one", good[:len(good)-1], api.ErrShort},
		{"one byte less told", framed("amn1", 3, body), api.ErrTail},
		{"none told", framed("amn1", 0, body), api.ErrTail},
		{"less told, sum wrong", with(7, 4), api.ErrTail},
		{"a byte behind", append(slices.Clone(good), 0), api.ErrTail},
		{"body spoilt", with(8, 1), api.ErrSum},
		{"sum spoilt at its first byte", with(12, 1), api.ErrSum},
		{"sum spoilt at its last byte", with(15, 128), api.ErrSum},
		{"the sum's bytes turned round", append(slices.Clone(good[:12]), good[15], good[14], good[13], good[12]), api.ErrSum},
		{"the greatest", full, api.OK},
		{"the greatest and one", append(slices.Clone(full), 0), api.ErrLong},
		{"one too long, told right", framed("amn1", most+1, make([]byte, most+1)), api.ErrLong},
		{"too long, all else wrong", make([]byte, api.MaxFrame+1), api.ErrLong},
		{"the greatest, all wrong", make([]byte, api.MaxFrame), api.ErrMagic},
	} {
		b, e := wire.Open(c.frame)
		if e != c.want {
			t.Errorf("%s: %d, want %d", c.name, e, c.want)
		}
		if e != api.OK && b != nil {
			t.Errorf("%s: bytes beside an error", c.name)
		}
	}
}

// P1.3: what is sealed is opened.

func TestOpenOfSeal(t *testing.T) {
	r := source()
	lengths := []int{4095, 4096, most - 1, most}
	for n := range 300 {
		lengths = append(lengths, n)
	}
	for _, n := range lengths {
		body := someBytes(r, n)
		got, e := wire.Open(sealed(t, body))
		if e != api.OK || !bytes.Equal(got, body) {
			t.Fatalf("a body of %d bytes comes back as %d bytes, %d", n, len(got), e)
		}
	}
}

// spoilt changes bits of a frame: bit i of pattern is the bit first + i, within a byte counted from the lowest.
func spoilt(frame []byte, first int, pattern uint32) []byte {
	f := slices.Clone(frame)
	for i := range 32 {
		if pattern>>i&1 == 1 {
			f[(first+i)/8] ^= 1 << ((first + i) % 8)
		}
	}
	return f
}

// P1.3: a frame is not opened, if bits within 32 of one another are changed.

func TestChangedBitsAreNotOpened(t *testing.T) {
	r := source()
	for _, n := range []int{0, 1, 4, 23} {
		frame := sealed(t, someBytes(r, n))
		all := 8 * len(frame)
		for first := range all {
			for _, pattern := range patterns(r) {
				if first+bits.Len32(pattern) > all {
					continue
				}
				f := spoilt(frame, first, pattern)
				if b, e := wire.Open(f); e == api.OK || b != nil {
					t.Fatalf("a body of %d bytes, changed by %#x from bit %d on, is opened", n, pattern, first)
				}
			}
		}
	}
}

// patterns: changes that begin with their lowest bit: all of eight bits, all pairs, and some of each width.
func patterns(r *rand.Rand) []uint32 {
	var l []uint32
	for x := uint32(1); x < 1<<8; x += 2 {
		l = append(l, x)
	}
	for i := range 31 {
		l = append(l, 1|2<<i, 1<<31|1|r.Uint32(), 1|r.Uint32()>>i)
	}
	return append(l, 1<<32-1, 1, 1<<31|1)
}

func TestChangedBitsOfALongFrame(t *testing.T) {
	r := source()
	frame := sealed(t, someBytes(r, most))
	for range 300 {
		first := r.IntN(8*len(frame) - 31)
		if _, e := wire.Open(spoilt(frame, first, 1|r.Uint32())); e == api.OK {
			t.Fatalf("changed from bit %d on, and opened", first)
		}
	}
}

// P1.4: the sum of an exclusive or.

func TestSumOfExclusiveOr(t *testing.T) {
	r := source()
	for n := range 200 {
		a, b, x := someBytes(r, n), someBytes(r, n), make([]byte, n)
		for i := range x {
			x[i] = a[i] ^ b[i]
		}
		if wire.Sum(x) != wire.Sum(a)^wire.Sum(b)^wire.Sum(make([]byte, n)) {
			t.Fatalf("lengths of %d: the sums do not fit together", n)
		}
	}
}

// P1.6: frames and bodies share nothing with what was handed in.

func TestFramesShareNothing(t *testing.T) {
	behind := []byte("bodyBEHIND")
	body := behind[:4]
	frame := sealed(t, body)
	want := slices.Clone(frame)
	copy(behind, "xxxxxxxxxx")
	if !slices.Equal(frame, want) {
		t.Fatal("Seal's answer changes with the body")
	}
	copy(behind, "bodyBEHIND")
	overwrite(frame)
	if string(behind) != "bodyBEHIND" {
		t.Fatal("Seal's answer lies over the body")
	}
	if !slices.Equal(sealed(t, body), want) {
		t.Fatal("Seal answers another frame the second time")
	}
}

func TestBodiesShareNothing(t *testing.T) {
	for _, text := range []string{"", "body"} {
		room := append(sealed(t, []byte(text)), "BEHIND"...)
		frame := room[:12+len(text)]
		want := slices.Clone(room)
		body, e := wire.Open(frame)
		if e != api.OK {
			t.Fatal(e)
		}
		overwrite(body)
		if !slices.Equal(room, want) {
			t.Fatal("Open's answer lies over the frame")
		}
		again, _ := wire.Open(frame)
		overwrite(frame)
		if string(again) != text {
			t.Fatal("Open's answer changes with the frame")
		}
	}
}

func TestCallsLeaveBytesAlone(t *testing.T) {
	r := source()
	for n := range 64 {
		room := someBytes(r, n+32)
		want := slices.Clone(room)
		wire.Sum(room[:n])
		wire.Seal(room[:n])
		wire.Open(room[:n])
		wire.NewReader(room[:n]).Text(n)
		if !slices.Equal(room, want) {
			t.Fatalf("a call changed what was handed in (%d bytes)", n)
		}
	}
}

// overwrite writes over bytes and over their spare room.
func overwrite(b []byte) {
	b = b[:cap(b)]
	for i := range b {
		b[i] = '#'
	}
}
