package wire_test

import (
	"math"
	"slices"
	"testing"

	"amnesia/api"
	"amnesia/wire"
)

// P1.2: what was laid down is read as the same.

func TestNumbersComeBack(t *testing.T) {
	var w wire.Writer
	var l []uint64
	for i := range 64 {
		l = append(l, 1<<i, 1<<i-1, 1<<i+1, math.MaxUint64-1<<i, math.MaxUint64>>i)
	}
	for _, v := range l {
		w.Number(v)
	}
	r := wire.NewReader(laid(t, &w))
	for _, v := range l {
		if got := r.Number(); got != v {
			t.Fatalf("%d comes back as %d", v, got)
		}
	}
	if e := r.End(); e != api.OK {
		t.Fatal(e)
	}
}

func TestThingsComeBack(t *testing.T) {
	var w wire.Writer
	w.Text("", 0)
	w.Int(math.MaxInt)
	w.Count(256, 256)
	w.Text("a\x00\xff", 64)
	w.Number(math.MaxUint64)
	w.Int(0)
	b := laid(t, &w)
	r := wire.NewReader(b)
	if r.At() != 0 || r.Left() != len(b) || r.End() != api.ErrTail {
		t.Fatal("at the beginning", r.At(), r.Left(), r.End())
	}
	if r.Text(0) != "" || r.Int(math.MaxInt) != math.MaxInt || r.Count(256) != 256 {
		t.Fatal("the first three", r.At(), r.End())
	}
	if r.At() != 1+9+3 || r.Left() != len(b)-13 || r.End() != api.ErrTail {
		t.Fatal("in the middle", r.At(), r.Left(), r.End())
	}
	if r.Text(64) != "a\x00\xff" || r.Number() != math.MaxUint64 || r.Int(0) != 0 {
		t.Fatal("the last three", r.At(), r.End())
	}
	if r.At() != len(b) || r.Left() != 0 || r.End() != api.OK {
		t.Fatal("at the end", r.At(), r.Left(), r.End())
	}
}

// P1.2: no other bytes are read as the same: whatever is read without an error, a Writer lays down as those bytes.

func TestOneFormAlone(t *testing.T) {
	check := func(b []byte) {
		r := wire.NewReader(b)
		var w wire.Writer
		w.Number(r.Number())
		if r.End() == api.OK && !slices.Equal(laid(t, &w), b) {
			t.Fatalf("%v is read as a number that is laid down as %v", b, laid(t, &w))
		}
		r = wire.NewReader(b)
		var x wire.Writer
		x.Text(r.Text(math.MaxInt), math.MaxInt)
		if r.End() == api.OK && !slices.Equal(laid(t, &x), b) {
			t.Fatalf("%v is read as a text that is laid down as %v", b, laid(t, &x))
		}
	}
	check(nil)
	for x := range 1 << 8 {
		check([]byte{byte(x)})
	}
	for x := range 1 << 16 {
		check([]byte{byte(x >> 8), byte(x)})
		check([]byte{2, byte(x >> 8), byte(x)})
		check([]byte{byte(x >> 8), byte(x), 7})
		check([]byte{3, 0, byte(x >> 8), byte(x)})
		check([]byte{1, byte(x >> 8), byte(x), 9})
	}
	r := source()
	for range 20000 {
		b := someBytes(r, r.IntN(12))
		if len(b) > 1 {
			b[0], b[1] = b[0]%10, b[1]%4
		}
		check(b)
	}
}

// P1.5: a Reader's errors, in their order; what fails moves nothing.

func TestErrorsOfNumbers(t *testing.T) {
	for _, c := range []struct {
		bytes string
		value uint64
		want  api.Errno
		at    int
	}{
		{"", 0, api.ErrShort, 0},
		{"\x00", 0, api.OK, 1},
		{"\x01", 0, api.ErrShort, 0},
		{"\x01\x00", 0, api.ErrForm, 0},
		{"\x01\x01", 1, api.OK, 2},
		{"\x01\x01\x00", 1, api.ErrTail, 2},
		{"\x02\x00\x07", 0, api.ErrForm, 0},
		{"\x02\x01", 0, api.ErrShort, 0},
		{"\x02\x00", 0, api.ErrShort, 0},
		{"\x02\x01\x00", 256, api.OK, 3},
		{"\x08\xff\xff\xff\xff\xff\xff\xff\xff", math.MaxUint64, api.OK, 9},
		{"\x08\xff\xff\xff\xff\xff\xff\xff", 0, api.ErrShort, 0},
		{"\x08\x00\xff\xff\xff\xff\xff\xff\xff", 0, api.ErrForm, 0},
		{"\x08\x00\xff\xff\xff\xff\xff\xff", 0, api.ErrShort, 0},
		{"\x09", 0, api.ErrForm, 0},
		{"\x09\x01", 0, api.ErrForm, 0},
		{"\x09\x01\x01\x01\x01\x01\x01\x01\x01\x01", 0, api.ErrForm, 0},
		{"\xff", 0, api.ErrForm, 0},
		{"\xff\x00", 0, api.ErrForm, 0},
	} {
		r := wire.NewReader([]byte(c.bytes))
		if v := r.Number(); v != c.value || r.End() != c.want || r.At() != c.at || r.Left() != len(c.bytes)-c.at {
			t.Errorf("Number of %q: %d, %d at %d, want %d, %d at %d", c.bytes, v, r.End(), r.At(), c.value, c.want, c.at)
		}
	}
}

func TestErrorsOfCounts(t *testing.T) {
	for _, c := range []struct {
		bytes string
		most  int
		value int
		want  api.Errno
	}{
		{"\x01\x05", 5, 5, api.OK},
		{"\x01\x05", 4, 0, api.ErrLong},
		{"\x01\x05", 0, 0, api.ErrLong},
		{"\x00", 0, 0, api.OK},
		{"\x00", -1, 0, api.ErrArg},
		{"\x01\x05", -1, 0, api.ErrArg},
		{"", -1, 0, api.ErrArg},
		{"\x09", math.MinInt, 0, api.ErrArg},
		{"", 9, 0, api.ErrShort},
		{"\x02\x01", 0, 0, api.ErrShort},
		{"\x01\x00", 0, 0, api.ErrForm},
		{"\x09", 0, 0, api.ErrForm},
		{"\x08\x7f\xff\xff\xff\xff\xff\xff\xff", math.MaxInt, math.MaxInt, api.OK},
		{"\x08\x7f\xff\xff\xff\xff\xff\xff\xff", math.MaxInt - 1, 0, api.ErrLong},
		{"\x08\x80\x00\x00\x00\x00\x00\x00\x00", math.MaxInt, 0, api.ErrLong},
		{"\x08\xff\xff\xff\xff\xff\xff\xff\xff", math.MaxInt, 0, api.ErrLong},
		{"\x08\xff\xff\xff\xff\xff\xff\xff\xff", 0, 0, api.ErrLong},
	} {
		at := 0
		if c.want == api.OK {
			at = len(c.bytes)
		}
		i, k := wire.NewReader([]byte(c.bytes)), wire.NewReader([]byte(c.bytes))
		if v := i.Int(c.most); v != c.value || i.End() != c.want || i.At() != at {
			t.Errorf("Int(%d) of %q: %d, %d at %d", c.most, c.bytes, v, i.End(), i.At())
		}
		if v := k.Count(c.most); v != c.value || k.End() != c.want || k.At() != at {
			t.Errorf("Count(%d) of %q: %d, %d at %d", c.most, c.bytes, v, k.End(), k.At())
		}
	}
}

func TestErrorsOfTexts(t *testing.T) {
	for _, c := range []struct {
		bytes string
		most  int
		value string
		want  api.Errno
		at    int
	}{
		{"\x01\x02ab", 2, "ab", api.OK, 4},
		{"\x01\x02abc", 2, "ab", api.ErrTail, 4},
		{"\x00", 0, "", api.OK, 1},
		{"\x00a", 9, "", api.ErrTail, 1},
		{"\x01\x02ab", 1, "", api.ErrLong, 0},
		{"\x01\x02a", 1, "", api.ErrLong, 0},
		{"\x01\x02ab", 0, "", api.ErrLong, 0},
		{"\x01\x02ab", -1, "", api.ErrArg, 0},
		{"", -1, "", api.ErrArg, 0},
		{"", 9, "", api.ErrShort, 0},
		{"\x01\x03ab", 9, "", api.ErrShort, 0},
		{"\x01\x03", 3, "", api.ErrShort, 0},
		{"\x02\x00\x02ab", 9, "", api.ErrForm, 0},
		{"\x09ab", 9, "", api.ErrForm, 0},
		{"\x08\x7f\xff\xff\xff\xff\xff\xff\xffab", math.MaxInt, "", api.ErrShort, 0},
		{"\x08\xff\xff\xff\xff\xff\xff\xff\xffab", math.MaxInt, "", api.ErrLong, 0},
	} {
		r := wire.NewReader([]byte(c.bytes))
		if v := r.Text(c.most); v != c.value || r.End() != c.want || r.At() != c.at || r.Left() != len(c.bytes)-c.at {
			t.Errorf("Text(%d) of %q: %q, %d at %d", c.most, c.bytes, v, r.End(), r.At())
		}
	}
}

// P1.5: the first error stays, and nothing is read behind it.

func TestFirstErrorOfReaderStays(t *testing.T) {
	for _, c := range []struct {
		name string
		fail func(r *wire.Reader)
		want api.Errno
	}{
		{"most of Int", func(r *wire.Reader) { r.Int(-1) }, api.ErrArg},
		{"most of Text", func(r *wire.Reader) { r.Text(-1) }, api.ErrArg},
		{"Count above most", func(r *wire.Reader) { r.Count(2) }, api.ErrLong},
		{"Text above most", func(r *wire.Reader) { r.Text(2) }, api.ErrLong},
		{"Text too short", func(r *wire.Reader) { r.Text(3) }, api.ErrShort},
	} {
		r := wire.NewReader([]byte{1, 1, 1, 3, 'a', 0})
		r.Number()
		c.fail(r)
		readAll(t, r, c.name)
		if r.At() != 2 || r.Left() != 4 || r.End() != c.want || r.End() != c.want {
			t.Errorf("%s: at %d, left %d, end %d, want %d", c.name, r.At(), r.Left(), r.End(), c.want)
		}
	}
	r := wire.NewReader([]byte{1, 0, 5})
	r.Number()
	readAll(t, r, "the form of a number")
	if r.At() != 0 || r.End() != api.ErrForm {
		t.Errorf("the form of a number: at %d, end %d", r.At(), r.End())
	}
	r = wire.NewReader(nil)
	r.Number()
	readAll(t, r, "no bytes")
	if r.At() != 0 || r.Left() != 0 || r.End() != api.ErrShort {
		t.Errorf("no bytes: at %d, end %d", r.At(), r.End())
	}
}

// readAll does each read, rightly and wrongly; all must answer nothing.
func readAll(t *testing.T, r *wire.Reader, name string) {
	t.Helper()
	if r.Number() != 0 || r.Int(9) != 0 || r.Int(-1) != 0 || r.Count(9) != 0 || r.Count(-1) != 0 || r.Text(9) != "" || r.Text(-1) != "" {
		t.Errorf("%s: something is read behind an error", name)
	}
}

func TestEndChangesNothing(t *testing.T) {
	r := wire.NewReader([]byte{1, 7})
	if r.End() != api.ErrTail || r.At() != 0 || r.Number() != 7 || r.End() != api.OK || r.End() != api.OK {
		t.Error("End asked ahead of the end is no error that stays", r.End())
	}
	if r.Number() != 0 || r.End() != api.ErrShort {
		t.Error("behind the end", r.End())
	}
}

func TestReaderOfNoBytes(t *testing.T) {
	for _, b := range [][]byte{nil, {}} {
		r := wire.NewReader(b)
		if r.At() != 0 || r.Left() != 0 || r.End() != api.OK {
			t.Error("a Reader of no bytes", r.At(), r.Left(), r.End())
		}
	}
}

func TestReadersThatNobodyMade(t *testing.T) {
	for _, r := range []*wire.Reader{nil, {}, new(wire.Reader)} {
		for range 2 {
			readAll(t, r, "not made")
			if r.At() != 0 || r.Left() != 0 || r.End() != api.ErrMade {
				t.Error("a Reader that nobody made", r.At(), r.Left(), r.End())
			}
		}
	}
}

// P1.6: a Reader reads what stood there when it was made.

func TestReaderKeepsItsOwnBytes(t *testing.T) {
	b := []byte{1, 5, 1, 2, 'a', 'b', 1, 6}
	r := wire.NewReader(b)
	if r.Number() != 5 {
		t.Fatal("a number")
	}
	copy(b, []byte{9, 9, 9, 9, 9, 9, 9, 9})
	s := r.Text(2)
	clear(b)
	if s != "ab" || r.Int(6) != 6 || r.End() != api.OK {
		t.Fatal("a Reader sees what was written over", s, r.End())
	}
	if !slices.Equal(b, make([]byte, 8)) {
		t.Fatal("a Reader changed what was handed in")
	}
}

func TestReadersShareNothing(t *testing.T) {
	b := []byte{1, 5, 1, 6}
	one, two := wire.NewReader(b), wire.NewReader(b)
	if one.Number() != 5 || two.Count(4) != 0 || one.Number() != 6 || one.End() != api.OK || two.End() != api.ErrLong {
		t.Fatal("one Reader moves another", one.End(), two.End())
	}
	three := wire.NewReader(b)
	four := *three
	if three.Number() != 5 || four.Number() != 5 || four.Number() != 6 || three.At() != 2 || four.At() != 4 {
		t.Fatal("a Reader moves its copy", three.At(), four.At())
	}
}
