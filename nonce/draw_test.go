package nonce_test

import (
	"math"
	"math/big"
	"math/rand/v2"
	"slices"
	"strings"
	"testing"

	"amnesia/api"
	"amnesia/nonce"
)

const top = math.MaxUint64

var greatest = api.Draw{Hi: top, Lo: top}

// Draws at the ends of both halves, and beside them.
func edgeDraws() []api.Draw {
	ends := []uint64{0, 1, 2, 9, 10, 1<<32 - 1, 1 << 32, 1<<63 - 1, 1 << 63, top - 1, top}
	var l []api.Draw
	for _, hi := range ends {
		for _, lo := range ends {
			l = append(l, api.Draw{Hi: hi, Lo: lo})
		}
	}
	return l
}

// A draw as the one number of 128 bits that it is.
func asNumber(d api.Draw) *big.Int {
	n := new(big.Int).SetUint64(d.Hi)
	return n.Add(n.Lsh(n, 64), new(big.Int).SetUint64(d.Lo))
}

// P2.1, P2.11: the order of draws.

func TestCompareIsTheOrderOfNumbers(t *testing.T) {
	l := edgeDraws()
	for _, a := range l {
		for _, b := range l {
			if got, want := nonce.Compare(a, b), asNumber(a).Cmp(asNumber(b)); got != want {
				t.Fatalf("Compare(%v, %v): %d, want %d", a, b, got, want)
			}
			if (nonce.Compare(a, b) == 0) != (a == b) || nonce.Compare(a, b) != -nonce.Compare(b, a) {
				t.Fatalf("Compare(%v, %v) and back", a, b)
			}
		}
	}
	if nonce.Compare(api.Draw{Lo: 9}, api.Draw{Hi: 1}) != -1 {
		t.Error("example 1")
	}
}

func TestCompareIsTransitive(t *testing.T) {
	l := edgeDraws()
	r := rand.New(rand.NewPCG(2, 1))
	for range 20000 {
		a, b, c := l[r.IntN(len(l))], l[r.IntN(len(l))], l[r.IntN(len(l))]
		if nonce.Compare(a, b) <= 0 && nonce.Compare(b, c) <= 0 && nonce.Compare(a, c) > 0 {
			t.Fatal(a, b, c)
		}
	}
}

func TestNext(t *testing.T) {
	for _, c := range []struct {
		d, want api.Draw
		e       api.Errno
	}{
		{api.Draw{}, api.Draw{Lo: 1}, api.OK},
		{api.Draw{Hi: 17, Lo: 3}, api.Draw{Hi: 17, Lo: 4}, api.OK},
		{api.Draw{Lo: top}, api.Draw{Hi: 1}, api.OK},
		{api.Draw{Hi: top}, api.Draw{Hi: top, Lo: 1}, api.OK},
		{api.Draw{Hi: top - 1, Lo: top}, api.Draw{Hi: top}, api.OK},
		{api.Draw{Hi: top, Lo: top - 1}, greatest, api.OK},
		{greatest, api.Draw{}, api.ErrEnd},
	} {
		if d, e := nonce.Next(c.d); d != c.want || e != c.e {
			t.Errorf("Next(%v): %v, %d, want %v, %d", c.d, d, e, c.want, c.e)
		}
	}
}

func TestNothingLiesBetweenADrawAndTheNext(t *testing.T) {
	one := big.NewInt(1)
	for _, d := range edgeDraws() {
		n, e := nonce.Next(d)
		if d == greatest {
			continue
		}
		if e != api.OK || nonce.Compare(n, d) != 1 || new(big.Int).Sub(asNumber(n), asNumber(d)).Cmp(one) != 0 {
			t.Errorf("Next(%v): %v, %d", d, n, e)
		}
	}
}

// P2.2, P2.11: the text of a draw.

func TestPrint(t *testing.T) {
	for _, c := range []struct {
		d    api.Draw
		want string
	}{
		{api.Draw{}, "0.0"},
		{api.Draw{Hi: 17, Lo: 3}, "17.3"},
		{api.Draw{Lo: 10}, "0.10"},
		{api.Draw{Hi: 100}, "100.0"},
		{api.Draw{Hi: 1 << 63, Lo: 1<<63 - 1}, "9223372036854775808.9223372036854775807"},
		{greatest, "18446744073709551615.18446744073709551615"},
	} {
		if got := nonce.Print(c.d); got != c.want {
			t.Errorf("Print(%v): %q, want %q", c.d, got, c.want)
		}
		if d, e, at := nonce.Parse(c.want); d != c.d || e != api.OK || at != 0 {
			t.Errorf("Parse(%q): %v, %d, %d", c.want, d, e, at)
		}
	}
}

func TestParseOfWhatIsNoDraw(t *testing.T) {
	for _, c := range []struct {
		text string
		at   int
	}{
		{"", 0}, {".", 0}, {".3", 0}, {" 1.2", 0}, {"+1.2", 0}, {"-1.2", 0}, {"x", 0}, {"/", 0}, {":", 0}, {"٣.1", 0}, {"\x00", 0}, {"\xff", 0},
		{"0", 1}, {"00", 1}, {"017.3", 1}, {"1_0.2", 1}, {"1x", 1}, {"0,1", 1},
		{"17", 2}, {"17 .3", 2}, {"17:3", 2},
		{"17.", 3}, {"17..3", 3}, {"17. 3", 3}, {"17.-3", 3}, {"17.x", 3},
		{"17.3 ", 4}, {"17.3.", 4}, {"17.3.4", 4}, {"17.3\n", 4}, {"17.00", 4}, {"17.03", 4}, {"17.3x", 4},
		{"18446744073709551615", 20}, {"18446744073709551616.0", 19}, {"18446744073709551620.0", 19}, {"99999999999999999999.0", 19}, {"184467440737095516150.0", 20}, {"100000000000000000000.0", 20},
		{"1.18446744073709551616", 21}, {"1.184467440737095516150", 22}, {"1.99999999999999999999", 21},
		{"18446744073709551615.18446744073709551616", 40}, {"18446744073709551615.18446744073709551615 ", 41}, {"18446744073709551615.184467440737095516150", 41},
		{strings.Repeat("9", 1<<20), 19}, {strings.Repeat("0", 1<<20), 1}, {"1." + strings.Repeat("1", 1<<20), 22},
	} {
		if d, e, at := nonce.Parse(c.text); d != (api.Draw{}) || e != api.ErrDraw || at != c.at {
			t.Errorf("Parse(%.50q): %v, %d, %d, want ErrDraw, %d", c.text, d, e, at, c.at)
		}
	}
}

// Is text a number below 2^64 in its one form?
func isNumber(text string) bool {
	n, ok := new(big.Int).SetString(text, 10)
	return ok && n.String() == text && n.Sign() >= 0 && n.BitLen() <= 64
}

// Is text a beginning of some draw's text? Each beginning of a number is empty or a number.
func isBeginning(text string) bool {
	hi, lo, point := strings.Cut(text, ".")
	if !point {
		return hi == "" || isNumber(hi)
	}
	return isNumber(hi) && (lo == "" || isNumber(lo))
}

func checkParse(t *testing.T, text string) {
	t.Helper()
	d, e, at := nonce.Parse(text)
	hi, lo, point := strings.Cut(text, ".")
	if point && isNumber(hi) && isNumber(lo) {
		if e != api.OK || at != 0 || nonce.Print(d) != text {
			t.Fatalf("Parse(%q): %v, %d, %d", text, d, e, at)
		}
		return
	}
	want := len(text)
	for !isBeginning(text[:want]) {
		want--
	}
	if d != (api.Draw{}) || e != api.ErrDraw || at != want {
		t.Fatalf("Parse(%q): %v, %d, %d, want ErrDraw, %d", text, d, e, at, want)
	}
}

func TestParseOfAllShortTexts(t *testing.T) {
	texts := []string{""}
	for range 5 {
		var longer []string
		for _, s := range texts {
			checkParse(t, s)
			for _, c := range "0179. x" {
				longer = append(longer, s+string(c))
			}
		}
		texts = longer
	}
}

func TestParseOfSpoiltTexts(t *testing.T) {
	l := edgeDraws()
	r := rand.New(rand.NewPCG(2, 2))
	for range 20000 {
		b := []byte(nonce.Print(l[r.IntN(len(l))]))
		for range r.IntN(3) {
			at := r.IntN(len(b) + 1)
			switch c := "0123456789..x /:"[r.IntN(16)]; r.IntN(3) {
			case 0:
				b = slices.Insert(b, at, c)
			case 1:
				b = b[:at]
			default:
				if at < len(b) {
					b[at] = c
				}
			}
		}
		checkParse(t, string(b))
	}
}

func TestTextAndBack(t *testing.T) {
	l := edgeDraws()
	r := rand.New(rand.NewPCG(2, 3))
	for range 2000 {
		l = append(l, api.Draw{Hi: r.Uint64() >> r.IntN(64), Lo: r.Uint64() >> r.IntN(64)})
	}
	of := make(map[string]api.Draw)
	for _, d := range l {
		text := nonce.Print(d)
		if other, ok := of[text]; ok && other != d {
			t.Fatalf("%v and %v have one text", d, other)
		}
		of[text] = d
		if back, e, at := nonce.Parse(text); back != d || e != api.OK || at != 0 {
			t.Fatalf("Parse(%q): %v, %d, %d", text, back, e, at)
		}
	}
}

// P2.8: are draws fresh?

func stamp(node int, hi, lo uint64) api.Stamp {
	return api.Stamp{Node: node, Draw: api.Draw{Hi: hi, Lo: lo}}
}

func TestFresh(t *testing.T) {
	for _, c := range []struct {
		name  string
		l     []api.Stamp
		fresh bool
		at    int
	}{
		{"none", nil, true, 0},
		{"empty", []api.Stamp{}, true, 0},
		{"example", []api.Stamp{stamp(0, 1, 0), stamp(1, 1, 0), stamp(0, 2, 0)}, true, 0},
		{"again", []api.Stamp{stamp(0, 1, 0), stamp(0, 1, 0)}, false, 1},
		{"zero at first", []api.Stamp{stamp(3, 0, 0)}, false, 0},
		{"zero of a second node", []api.Stamp{stamp(0, 1, 0), stamp(1, 0, 0)}, false, 1},
		{"zero later", []api.Stamp{stamp(0, 1, 0), stamp(0, 0, 0)}, false, 1},
		{"back", []api.Stamp{stamp(0, 2, 0), stamp(1, 1, 0), stamp(0, 1, 0)}, false, 2},
		{"back to between", []api.Stamp{stamp(0, 1, 0), stamp(0, 9, 0), stamp(0, 2, 0)}, false, 2},
		{"first of two faults", []api.Stamp{stamp(0, 2, 0), stamp(1, 2, 0), stamp(1, 1, 0), stamp(0, 1, 0)}, false, 2},
		{"least", []api.Stamp{stamp(0, 0, 1)}, true, 0},
		{"by the lower half", []api.Stamp{stamp(0, 1, 1), stamp(0, 1, 2)}, true, 0},
		{"lower half falls, higher rises", []api.Stamp{stamp(0, 0, top), stamp(0, 1, 0)}, true, 0},
		{"greatest", []api.Stamp{stamp(0, top, top-1), stamp(0, top, top)}, true, 0},
		{"greatest again", []api.Stamp{stamp(0, top, top), stamp(0, top, top)}, false, 1},
		{"nodes of any number", []api.Stamp{stamp(-1, 1, 0), stamp(math.MaxInt, 1, 0), stamp(math.MinInt, 1, 0), stamp(1, 1, 0), stamp(-1, 2, 0)}, true, 0},
		{"a node below 0", []api.Stamp{stamp(-1, 1, 0), stamp(1, 1, 0), stamp(-1, 1, 0)}, false, 2},
	} {
		if fresh, at := nonce.Fresh(c.l); fresh != c.fresh || at != c.at {
			t.Errorf("%s: %v, %d, want %v, %d", c.name, fresh, at, c.fresh, c.at)
		}
	}
}

func TestFreshByItsWords(t *testing.T) {
	r := rand.New(rand.NewPCG(2, 8))
	for range 5000 {
		l := make([]api.Stamp, r.IntN(7))
		for i := range l {
			l[i] = api.Stamp{Node: r.IntN(3) - 1, Draw: api.Draw{Hi: r.Uint64N(2), Lo: r.Uint64N(6)}}
		}
		fresh, at := nonce.Fresh(l)
		wantFresh, wantAt := true, 0
		for i, s := range l {
			bad := s.Draw == api.Draw{}
			for _, ahead := range l[:i] {
				bad = bad || ahead.Node == s.Node && nonce.Compare(ahead.Draw, s.Draw) >= 0
			}
			if bad {
				wantFresh, wantAt = false, i
				break
			}
		}
		if fresh != wantFresh || at != wantAt {
			t.Fatalf("Fresh(%v): %v, %d, want %v, %d", l, fresh, at, wantFresh, wantAt)
		}
	}
}

func TestFreshLeavesItsListAlone(t *testing.T) {
	room := []api.Stamp{stamp(0, 1, 0), stamp(0, 1, 0), stamp(5, 5, 0)}
	nonce.Fresh(room[:2])
	if !slices.Equal(room, []api.Stamp{stamp(0, 1, 0), stamp(0, 1, 0), stamp(5, 5, 0)}) {
		t.Error(room)
	}
}
