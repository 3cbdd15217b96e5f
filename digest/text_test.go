package digest_test

import (
	"encoding/hex"
	"math/rand/v2"
	"strings"
	"testing"

	"amnesia/api"
	"amnesia/digest"
)

// P19.1 and P19.3: Print and Parse.

// wrongSigns: those beside the digits and the letters, capitals, others, and bytes above 127.
const wrongSigns = "/:`g@GABCDEFXZxz .-+\x00\n\x7f\x80\xb0\xc3\xe1\xff"

func expectText(t *testing.T, h api.Hash, want string) {
	t.Helper()
	if s := digest.Print(h); s != want {
		t.Fatalf("Print: %q, want %q", s, want)
	}
	expectParsed(t, want, h)
}

func TestPrintAtTheEnds(t *testing.T) {
	var full api.Hash
	for i := range full {
		full[i] = 255
	}
	expectText(t, api.Hash{}, strings.Repeat("0", 64))
	expectText(t, full, strings.Repeat("f", 64))
}

func TestPrintOfEachByteAtEachPlace(t *testing.T) {
	for i := range 32 {
		for v := range 256 {
			var h api.Hash
			h[i] = byte(v)
			expectText(t, h, strings.Repeat("00", i)+digits[v/16:v/16+1]+digits[v%16:v%16+1]+strings.Repeat("00", 31-i))
		}
	}
}

func TestParseOfPrint(t *testing.T) {
	r := seeded(20)
	for range 2000 {
		h := someHash(r)
		expectText(t, h, hex.EncodeToString(h[:]))
	}
}

func TestPrintOfParse(t *testing.T) {
	r := seeded(21)
	for range 2000 {
		text := someDigits(r, 64)
		h, e, at := digest.Parse(text)
		if e != api.OK || at != 0 {
			t.Fatal(text, e, at)
		}
		if s := digest.Print(h); s != text {
			t.Fatalf("Print of Parse of %q: %q", text, s)
		}
	}
}

func someDigits(r *rand.Rand, n int) string {
	b := make([]byte, n)
	for i := range b {
		b[i] = digits[r.IntN(16)]
	}
	return string(b)
}

// Digits alone: of every length but one the text is none's.
func TestParseOfEachLength(t *testing.T) {
	r := seeded(22)
	expectRefused(t, "", 0)
	for n := range 64 {
		expectRefused(t, someDigits(r, n), n)
	}
	for _, n := range []int{65, 66, 67, 127, 128, 129, 1000, 100000} {
		expectRefused(t, someDigits(r, n), 64)
	}
	h, e, at := digest.Parse(someDigits(r, 64))
	if h == (api.Hash{}) || e != api.OK || at != 0 {
		t.Fatal(h, e, at)
	}
}

// Every byte that is no digit is wrong at each place, in texts that are short, right, and too long.
func TestParseOfAWrongSign(t *testing.T) {
	r := seeded(23)
	for v := range 256 {
		sign := string([]byte{byte(v)})
		if strings.Contains(digits, sign) {
			continue
		}
		for at := range 64 {
			head := someDigits(r, at)
			expectRefused(t, head+sign, at)
			expectRefused(t, head+sign+someDigits(r, 63-at), at)
			expectRefused(t, head+sign+someDigits(r, 70), at)
		}
		expectRefused(t, someDigits(r, 64)+sign, 64)
		expectRefused(t, someDigits(r, 64)+sign+someDigits(r, 3), 64)
		expectRefused(t, someDigits(r, 67)+sign, 64)
	}
}

// Of several wrong signs the first is told.
func TestParseOfWrongSigns(t *testing.T) {
	r := seeded(24)
	for _, sign := range []byte(wrongSigns) {
		for at := range 66 {
			for other := at; other < 68; other++ {
				text := []byte(someDigits(r, 68))
				text[at], text[other] = sign, wrongSigns[r.IntN(len(wrongSigns))]
				expectRefused(t, string(text), min(at, 64))
				if at < 64 {
					expectRefused(t, string(text[:64]), at)
					expectRefused(t, string(text[:at+1]), at)
				}
			}
		}
	}
}

func TestParseOfSignsBesideTheDigits(t *testing.T) {
	for _, sign := range "/:`g@G" {
		expectRefused(t, strings.Repeat(string(sign), 64), 0)
		expectRefused(t, "0"+strings.Repeat(string(sign), 63), 1)
		expectRefused(t, strings.Repeat("f", 63)+string(sign), 63)
	}
}

func TestParseOfCapitals(t *testing.T) {
	h := digest.Sum([]byte("abc"))
	capitals := strings.ToUpper(digest.Print(h))
	expectRefused(t, capitals, 0)
	for at := range 64 {
		for _, sign := range []byte("ABCDEF") {
			text := []byte(digest.Print(h))
			text[at] = sign
			expectRefused(t, string(text), at)
		}
	}
}

// A sign of several bytes is as many wrong ones; a text of 64 signs may have more bytes.
func TestParseOfRunes(t *testing.T) {
	expectRefused(t, "ä", 0)
	expectRefused(t, strings.Repeat("a", 62)+"é", 62)
	expectRefused(t, strings.Repeat("a", 63)+"é", 63)
	expectRefused(t, strings.Repeat("a", 64)+"é", 64)
	expectRefused(t, strings.Repeat("０", 64), 0)
	expectRefused(t, "\ufeff"+strings.Repeat("a", 64), 0)
}

// A text is taken as it is: nothing around it is let go.
func TestParseOfTextWithSomethingAround(t *testing.T) {
	text := strings.Repeat("0a", 32)
	for _, ahead := range []string{" ", "\n", "0x", "+", "-", "\""} {
		want := strings.IndexAny(ahead, " \nx+-\"")
		expectRefused(t, ahead+text, want)
		expectRefused(t, ahead+text[len(ahead):], want)
		expectRefused(t, text+ahead, 64)
	}
	expectRefused(t, strings.Repeat("0a:", 32), 2)
}

// All texts against the words of the chapter.
func TestParseOfDrawnTexts(t *testing.T) {
	taken := 0
	for seed := range uint64(20000) {
		r := seeded(30000 + seed)
		text := []byte(someDigits(r, 60+r.IntN(8)))
		for range r.IntN(3) {
			text[r.IntN(len(text))] = byte(r.Uint32())
		}
		h, e, at := digest.Parse(string(text))
		wantH, wantE, wantAt := modelParse(string(text))
		if h != wantH || e != wantE || at != wantAt {
			t.Fatalf("Parse(%q): %x, %d, %d, want %x, %d, %d", text, h, e, at, wantH, wantE, wantAt)
		}
		if e == api.OK {
			taken++
			if s := digest.Print(h); s != string(text) {
				t.Fatalf("Print of Parse of %q: %q", text, s)
			}
		}
	}
	if taken < 100 {
		t.Fatal("so few texts were taken:", taken)
	}
}

// A text that is refused is no beginning that was read: each text of 64 bytes has one hash, each hash one text.
func TestTextsAndHashesAreOneToOne(t *testing.T) {
	r := seeded(25)
	base := someHash(r)
	text := digest.Print(base)
	for i := range 64 {
		for _, d := range []byte(digits) {
			other := []byte(text)
			other[i] = d
			h, e, at := digest.Parse(string(other))
			if e != api.OK || at != 0 || (h == base) != (d == text[i]) || digest.Print(h) != string(other) {
				t.Fatal(i, string(d), h, e, at)
			}
		}
	}
}
