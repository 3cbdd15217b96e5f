package wire_test

import (
	"math"
	"slices"
	"strings"
	"testing"

	"amnesia/api"
	"amnesia/wire"
)

func laid(t *testing.T, w *wire.Writer) []byte {
	t.Helper()
	b, e := w.Bytes()
	if e != api.OK {
		t.Fatalf("Bytes: %d", e)
	}
	return b
}

// P1.2: each thing's form.

func TestFormsOfNumbers(t *testing.T) {
	for _, c := range []struct {
		v    uint64
		want string
	}{
		{0, "\x00"},
		{1, "\x01\x01"},
		{5, "\x01\x05"},
		{255, "\x01\xff"},
		{256, "\x02\x01\x00"},
		{65535, "\x02\xff\xff"},
		{65536, "\x03\x01\x00\x00"},
		{1<<24 - 1, "\x03\xff\xff\xff"},
		{1 << 24, "\x04\x01\x00\x00\x00"},
		{1 << 32, "\x05\x01\x00\x00\x00\x00"},
		{1 << 40, "\x06\x01\x00\x00\x00\x00\x00"},
		{1 << 48, "\x07\x01\x00\x00\x00\x00\x00\x00"},
		{1<<56 - 1, "\x07\xff\xff\xff\xff\xff\xff\xff"},
		{1 << 56, "\x08\x01\x00\x00\x00\x00\x00\x00\x00"},
		{0x0102030405060708, "\x08\x01\x02\x03\x04\x05\x06\x07\x08"},
		{1<<63 - 1, "\x08\x7f\xff\xff\xff\xff\xff\xff\xff"},
		{1 << 63, "\x08\x80\x00\x00\x00\x00\x00\x00\x00"},
		{math.MaxUint64, "\x08\xff\xff\xff\xff\xff\xff\xff\xff"},
	} {
		var w wire.Writer
		w.Number(c.v)
		if got := string(laid(t, &w)); got != c.want {
			t.Errorf("Number(%d): %q, want %q", c.v, got, c.want)
		}
		if c.v > math.MaxInt {
			continue
		}
		var i, k wire.Writer
		i.Int(int(c.v))
		k.Count(int(c.v), int(c.v))
		if string(laid(t, &i)) != c.want || string(laid(t, &k)) != c.want {
			t.Errorf("Int or Count of %d: %q, %q, want %q", c.v, laid(t, &i), laid(t, &k), c.want)
		}
	}
}

func TestThingsStandOneBehindTheOther(t *testing.T) {
	var w wire.Writer
	if b := laid(t, &w); len(b) != 0 {
		t.Fatalf("a new Writer has %v", b)
	}
	w.Number(0)
	w.Number(5)
	w.Number(256)
	if b := laid(t, &w); string(b) != "\x00\x01\x05\x02\x01\x00" {
		t.Fatalf("example 1: %v", b)
	}
	w.Text("ab", 2)
	w.Count(0, 0)
	w.Text("", 0)
	w.Int(7)
	want := "\x00\x01\x05\x02\x01\x00" + "\x01\x02ab" + "\x00" + "\x00" + "\x01\x07"
	for range 2 {
		if b := laid(t, &w); string(b) != want {
			t.Fatalf("%q, want %q", b, want)
		}
	}
}

func TestFormsOfTexts(t *testing.T) {
	for _, n := range []int{0, 1, 2, 64, 255, 256, 16384, 70000} {
		s := strings.Repeat("x", n)
		for _, room := range []int{n, n + 1, math.MaxInt} {
			var w, length wire.Writer
			w.Text(s, room)
			length.Int(n)
			if got := string(laid(t, &w)); got != string(laid(t, &length))+s {
				t.Errorf("Text of %d bytes is another", n)
			}
		}
	}
	var w wire.Writer
	w.Text("\xff\x00é", 4)
	if got := string(laid(t, &w)); got != "\x01\x04\xff\x00\xc3\xa9" {
		t.Errorf("bytes that are no runes: %q", got)
	}
}

// P1.5: a Writer's errors; the first stays.

func TestErrorsOfWriter(t *testing.T) {
	for _, c := range []struct {
		name string
		lay  func(w *wire.Writer)
		want api.Errno
	}{
		{"Int below 0", func(w *wire.Writer) { w.Int(-1) }, api.ErrArg},
		{"Int at the least", func(w *wire.Writer) { w.Int(math.MinInt) }, api.ErrArg},
		{"Int at the greatest", func(w *wire.Writer) { w.Int(math.MaxInt) }, api.OK},
		{"Count below 0", func(w *wire.Writer) { w.Count(-1, 5) }, api.ErrArg},
		{"Count with most below 0", func(w *wire.Writer) { w.Count(0, -1) }, api.ErrArg},
		{"Count above a most below 0", func(w *wire.Writer) { w.Count(5, -1) }, api.ErrArg},
		{"Count with both below 0", func(w *wire.Writer) { w.Count(-2, -1) }, api.ErrArg},
		{"Count with both at the least", func(w *wire.Writer) { w.Count(math.MinInt, math.MinInt) }, api.ErrArg},
		{"Count one above", func(w *wire.Writer) { w.Count(6, 5) }, api.ErrLong},
		{"Count above 0", func(w *wire.Writer) { w.Count(1, 0) }, api.ErrLong},
		{"Count at most", func(w *wire.Writer) { w.Count(5, 5) }, api.OK},
		{"Count of 0 at 0", func(w *wire.Writer) { w.Count(0, 0) }, api.OK},
		{"Count at the greatest", func(w *wire.Writer) { w.Count(math.MaxInt, math.MaxInt) }, api.OK},
		{"Count at the greatest, one above", func(w *wire.Writer) { w.Count(math.MaxInt, math.MaxInt-1) }, api.ErrLong},
		{"Text with most below 0", func(w *wire.Writer) { w.Text("abc", -1) }, api.ErrArg},
		{"no Text with most below 0", func(w *wire.Writer) { w.Text("", math.MinInt) }, api.ErrArg},
		{"Text one above", func(w *wire.Writer) { w.Text("abc", 2) }, api.ErrLong},
		{"Text above 0", func(w *wire.Writer) { w.Text("a", 0) }, api.ErrLong},
		{"no Text at 0", func(w *wire.Writer) { w.Text("", 0) }, api.OK},
	} {
		var w wire.Writer
		w.Number(5)
		c.lay(&w)
		b, e := w.Bytes()
		if e != c.want || e != api.OK && b != nil {
			t.Errorf("%s: %v, %d, want %d", c.name, b, e, c.want)
		}
		if c.want == api.OK {
			continue
		}
		layAll(&w)
		if b, e := w.Bytes(); e != c.want || b != nil {
			t.Errorf("%s, then others: %v, %d, want %d", c.name, b, e, c.want)
		}
	}
}

// layAll does each call, rightly and wrongly.
func layAll(w *wire.Writer) {
	w.Number(1)
	w.Int(1)
	w.Count(1, 1)
	w.Text("a", 1)
	w.Int(-1)
	w.Count(2, 1)
	w.Count(-1, 1)
	w.Text("abc", 1)
	w.Text("abc", -1)
}

func TestFirstErrorOfWriterStays(t *testing.T) {
	var arg, long wire.Writer
	arg.Int(-1)
	arg.Text("abc", 2)
	long.Text("abc", 2)
	long.Int(-1)
	if _, e := arg.Bytes(); e != api.ErrArg {
		t.Errorf("ErrArg first: %d", e)
	}
	if _, e := long.Bytes(); e != api.ErrLong {
		t.Errorf("ErrLong first: %d", e)
	}
}

func TestNilWriter(t *testing.T) {
	var w *wire.Writer
	layAll(w)
	if b, e := w.Bytes(); b != nil || e != api.ErrMade {
		t.Errorf("Bytes of a nil Writer: %v, %d", b, e)
	}
}

// P1.6: what a Writer answers is new memory.

func TestBytesShareNothing(t *testing.T) {
	var w wire.Writer
	w.Text("abc", 3)
	first := laid(t, &w)
	second := laid(t, &w)
	overwrite(first)
	if string(second) != "\x01\x03abc" || string(laid(t, &w)) != "\x01\x03abc" {
		t.Fatal("an answer that is written over changes another, or the Writer")
	}
	w.Number(256)
	overwrite(second)
	if string(laid(t, &w)) != "\x01\x03abc\x02\x01\x00" {
		t.Fatal("an answer lies in the Writer's room")
	}
	third := laid(t, &w)
	for range 100 {
		w.Number(5)
	}
	if string(third) != "\x01\x03abc\x02\x01\x00" {
		t.Fatal("an answer changes with the Writer")
	}
}

func TestWritersThatWereCopied(t *testing.T) {
	var w wire.Writer
	for i := range 40 {
		w.Number(uint64(i))
		before := laid(t, &w)
		left, right, idle, bad := w, w, w, w
		left.Number(1)
		right.Number(2)
		bad.Int(-1)
		w.Text("w", 1)
		for _, c := range []struct {
			writer *wire.Writer
			behind string
		}{{&left, "\x01\x01"}, {&right, "\x01\x02"}, {&idle, ""}, {&w, "\x01\x01w"}} {
			if got := laid(t, c.writer); !slices.Equal(got, append(slices.Clone(before), c.behind...)) {
				t.Fatalf("a copied Writer with %d bytes has %q", len(before), got)
			}
		}
		if _, e := bad.Bytes(); e != api.ErrArg {
			t.Fatalf("a copied Writer's error: %d", e)
		}
	}
}
