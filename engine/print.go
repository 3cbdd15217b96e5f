package engine

import (
	"strconv"
	"strings"

	"amnesia/api"
	"amnesia/ledger"
	"amnesia/nonce"
)

// joined: the line of these words.
func joined(line []string) string { return strings.Join(line, " ") + "\n" }

// bytesText: bytes as a script writes them.
func bytesText(b string) string {
	if b == "" {
		return noBytes
	}
	text := make([]byte, 0, 2*len(b))
	for i := range len(b) {
		text = append(text, digits[b[i]>>4], digits[b[i]&15])
	}
	return string(text)
}

// headOf: a script's lines ahead of all events.
func headOf(setup api.Setup) string {
	c := setup.Config
	group := []string{groupWord, strconv.Itoa(c.F), strconv.Itoa(c.Room), strconv.Itoa(c.Patience)}
	if c.Unguarded {
		group = append(group, unguardedWord)
	}
	head := joined(group)
	for _, client := range setup.Clients {
		head += joined([]string{clientWord, strconv.Itoa(client.Number)})
	}
	return head
}

// lineOf: an event's line; false: no line says it.
func lineOf(e api.Event) (string, bool) {
	f, is := formOf(e.Kind)
	if !is {
		return "", false
	}
	p := &phrase{words: []string{f.word}}
	for _, part := range f.fields {
		p.field(part, e)
	}
	return joined(p.words), !p.wrong
}

// phrase is a line as it is written. What no line says stays wrong.
type phrase struct {
	words []string
	wrong bool
}

func (p *phrase) must(is bool) { p.wrong = p.wrong || !is }

func (p *phrase) word(w string) { p.words = append(p.words, w) }

func (p *phrase) number(n int) {
	p.must(n >= 0)
	p.word(strconv.Itoa(n))
}

func (p *phrase) op(op api.Op) {
	if ledger.Check(op) != api.OK {
		p.must(false)
		return
	}
	f, _ := opFormOf(op.Kind) // what may be is of a kind
	p.word(f.word)
	if f.slot {
		p.number(op.Slot)
	}
	if f.value {
		p.word(bytesText(op.Value))
	}
}

func (p *phrase) bytes(b []byte) {
	if len(b) > api.MaxFrame {
		p.must(false)
		return
	}
	p.word(bytesText(string(b)))
}

// field: a part of an event's line, from its place in the event.
func (p *phrase) field(f field, e api.Event) {
	switch f {
	case noField:
	case drawField:
		p.word(nonce.Print(e.Draw))
	case bytesField:
		p.bytes(e.Bytes)
	case opField:
		p.op(e.Op)
	case readingField:
		p.must(isReading(e.Op.Kind))
		p.op(e.Op)
	case cutField:
		if e.Cut != 0 {
			p.word(cutWord)
			p.number(e.Cut)
		}
	default:
		p.number(*numberAt(&e, f))
	}
}
