package engine

import (
	"strconv"
	"strings"

	"amnesia/api"
	"amnesia/nonce"
)

// wordsOf: what stands between a line's blanks, which are spaces and nothing else.
func wordsOf(line string) []string {
	return strings.FieldsFunc(line, func(r rune) bool { return r == ' ' })
}

// words are what is left to read of a line. What is wrong stays wrong, so that it is enough to ask at the end.
type words struct {
	left  []string
	wrong bool
}

// wellEnded: was all of it right, and is nothing left?
func (w *words) wellEnded() bool { return !w.wrong && len(w.left) == 0 }

func (w *words) must(is bool) { w.wrong = w.wrong || !is }

func (w *words) next() string {
	if len(w.left) == 0 {
		w.wrong = true
		return ""
	}
	word := w.left[0]
	w.left = w.left[1:]
	return word
}

// number: each has one form alone, the one that strconv gives it; no int is above MaxNumber.
func (w *words) number() int {
	word := w.next()
	n, err := strconv.Atoi(word)
	w.must(err == nil && n >= 0 && strconv.Itoa(n) == word)
	return n
}

func (w *words) bytes() []byte {
	word := w.next()
	if word == noBytes {
		return nil
	}
	w.must(len(word)%2 == 0)
	b := make([]byte, 0, len(word)/2)
	for i := range len(word) / 2 {
		high, low := strings.IndexByte(digits, word[2*i]), strings.IndexByte(digits, word[2*i+1])
		w.must(high >= 0 && low >= 0)
		b = append(b, byte(high<<4|low))
	}
	return b
}

func (w *words) draw() api.Draw {
	d, e, _ := nonce.Parse(w.next())
	w.must(e == api.OK)
	return d
}

func (w *words) op() api.Op {
	f, is := opFormNamed(w.next())
	w.must(is)
	op := api.Op{Kind: f.kind}
	if f.slot {
		op.Slot = w.number()
	}
	if f.value {
		op.Value = string(w.bytes())
	}
	return op
}

// flag: does that word stand there? Nothing may, but no other one.
func (w *words) flag(word string) bool {
	if len(w.left) == 0 {
		return false
	}
	w.must(w.next() == word)
	return true
}

// field: a part of a line goes to its place in an event.
func (w *words) field(f field, e *api.Event) {
	switch f {
	case noField:
	case drawField:
		e.Draw = w.draw()
	case bytesField:
		e.Bytes = w.bytes()
	case opField:
		e.Op = w.op()
	case readingField:
		e.Op = w.op()
		w.must(isReading(e.Op.Kind))
	case cutField:
		if w.flag(cutWord) {
			e.Cut = w.number()
		}
	default:
		*numberAt(e, f) = w.number()
	}
}
