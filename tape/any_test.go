package tape_test

import (
	"encoding/binary"
	"math"
	"math/rand/v2"
	"slices"
	"testing"

	"amnesia/api"
	"amnesia/tape"
)

// P1, P4 and P5 of DOC.md, and P22.9: whatever bytes are given, each call answers what the chapter says.

// all: every call that takes a file, as the model has it.
func all(t *testing.T, what string, b []byte, asked ...[2]int) (reading, api.Errno) {
	t.Helper()
	return expectModel(t, what, b), seeking(t, what, b, asked...)
}

// turned: a body of which one number is another, or is written otherwise, or a byte is.
func turned(r *rand.Rand, body []byte) []byte {
	c := &cursor{b: body}
	var starts []int
	for c.e == api.OK && len(c.b) > 0 {
		starts = append(starts, len(body)-len(c.b))
		c.number(math.MaxUint64)
	}
	if len(starts) == 0 {
		return append(slices.Clone(body), 0)
	}
	at := pick(r, starts[min(r.IntN(5), len(starts)-1)], pick(r, starts...))
	c = &cursor{b: body[at:]}
	v := c.number(math.MaxUint64)
	if c.e != api.OK {
		return body[:at]
	}
	w := pick(r, number(v+1), number(v-1), number(0), number(v^1<<32), number(math.MaxUint64), number(uint64(r.IntN(40))), longer(v), []byte{9}, nil)
	return slices.Concat(body[:at], w, c.b)
}

// someChunks: the frames of a file, of which some are no longer as they were.
func someChunks(r *rand.Rand, l [][]byte) [][]byte {
	l = slices.Clone(l)
	for range 1 + r.IntN(2) {
		i, j := r.IntN(len(l)), r.IntN(len(l))
		body := l[i][8 : len(l[i])-4]
		switch r.IntN(7) {
		case 0:
			l[i], l[j] = l[j], l[i]
		case 1:
			l = slices.Insert(l, i, l[j])
		case 2:
			if len(l) > 1 {
				l = slices.Delete(l, i, i+1)
			}
		case 3:
			l[i] = framed(append(slices.Clone(body), byte(r.IntN(3))))
		default:
			l[i] = framed(turned(r, body))
		}
	}
	return l
}

// someFile: a file, or what was made of one.
func someFile(r *rand.Rand, whole []byte, l [][]byte) []byte {
	tail := whole[len(whole)-4:]
	switch r.IntN(6) {
	case 0:
		return whole
	case 1:
		b := slices.Clone(whole)
		for range 1 + r.IntN(3) {
			b[r.IntN(len(b))] ^= byte(1 + r.IntN(255))
		}
		return b
	case 2:
		return whole[:r.IntN(len(whole))]
	case 3:
		return slices.Concat(whole, whole[r.IntN(len(whole)):])
	case 4:
		l = someChunks(r, l)
		b := slices.Concat(l...)
		return slices.Concat(b, pick(r, tail, binary.BigEndian.AppendUint32(nil, uint32(len(l[len(l)-1])))))
	}
	// What was made of its head and its events has a foot that fits.
	var bodies [][]byte
	events := 0
	for _, frame := range someChunks(r, l[:len(l)-1]) {
		body := frame[8 : len(frame)-4]
		_, list, _, _ := modelPiece(body)
		events += len(list)
		bodies = append(bodies, body)
	}
	return laidOut(events, bodies[0], bodies[1:]...)
}

func TestAnyFilesAreReadAsTheyAre(t *testing.T) {
	t.Parallel()
	r := seeded(5)
	met, sought := make(map[api.Errno]int), make(map[api.Errno]int)
	places := 0
	for range 4000 {
		s := pick(r, someSetups()...)
		n := pick(r, 0, 1, 5, 31, 32, 33, 40, 65, 70, 100)
		events := mixed(n)
		for i := range events {
			if r.IntN(10) == 0 {
				events[i] = goodEvent(r)
			}
		}
		whole := modelFile(s, events)
		l, _ := frames(t, whole)
		b := someFile(r, whole, l)
		asked := [][2]int{{0, n}, {0, 1}, {n - 1, 1}, {r.IntN(n + 1), r.IntN(n + 1)}, {n, 0}, {n, 1}, {-1, 1}, {greatest, greatest}}
		read, index := all(t, "any", b, asked...)
		met[read.e]++
		sought[index]++
		if read.at > 0 && read.e != api.OK {
			places++
		}
	}
	expectEnough(t, met, map[api.Errno]int{api.OK: 500, api.ErrTape: 500, api.ErrIndex: 60, api.ErrCut: 300})
	expectEnough(t, sought, map[api.Errno]int{api.OK: 1000, api.ErrIndex: 300, api.ErrCut: 300})
	if places < 1000 {
		t.Error("too few faults behind the head:", places)
	}
}

// Bytes that are no file at all.
func TestAnyBytes(t *testing.T) {
	t.Parallel()
	r := seeded(6)
	for range 5000 {
		b := make([]byte, r.IntN(200))
		for i := range b {
			b[i] = pick(r, 0, 1, 2, 3, byte(r.IntN(256)))
		}
		switch r.IntN(4) {
		case 0:
			b = framed(b)
		case 1:
			b = slices.Concat(framed(modelHead(chapter)), framed(b))
		case 2:
			b = footed(framed(modelHead(chapter)), b)
		}
		all(t, "any bytes", b, [2]int{0, 0}, [2]int{0, 1}, [2]int{1, 1})
	}
	all(t, "many bytes", make([]byte, 10_000_000))
	all(t, "many bytes", slices.Repeat([]byte("amn1"), 1_000_000))
	all(t, "many heads", slices.Repeat(framed(modelHead(chapter)), 10000))
}

// No two files have one recording, and no two recordings one file.
func TestOneFileOneRecording(t *testing.T) {
	r := seeded(7)
	type recording struct {
		s      api.Setup
		events []api.Event
	}
	var l []recording
	for _, s := range someSetups() {
		for range 30 {
			l = append(l, recording{s, goodEvents(r, r.IntN(4))})
		}
	}
	for i, a := range l {
		b := file(t, a.s, a.events...)
		expectRead(t, b, a.s, a.events...)
		for _, other := range l[:i] {
			if slices.Equal(b, file(t, other.s, other.events...)) != (sameSetup(a.s, other.s) && sameEvents(a.events, other.events)) {
				t.Fatal("two recordings with one file, or two files of one recording:", a, other)
			}
		}
	}
}

// What a kind does not use is not in the file.
func TestUnusedFieldsAreNotTaped(t *testing.T) {
	r := seeded(8)
	for range 300 {
		x, y := taped(t, chapter), taped(t, chapter)
		var events []api.Event
		for range r.IntN(50) {
			e := someEvent(r)
			if _, err := modelPut(e); err != api.OK {
				continue
			}
			events = append(events, plain(e))
			if x.Add(e) != api.OK || y.Add(plain(e)) != api.OK {
				t.Fatal(e)
			}
		}
		if !slices.Equal(x.Bytes(), y.Bytes()) {
			t.Fatal("a field that is not used is seen")
		}
		_, got, e, _ := tape.Read(x.Bytes())
		if e != api.OK || !sameEvents(got, events) {
			t.Fatal(e)
		}
	}
}
