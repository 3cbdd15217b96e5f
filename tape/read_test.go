package tape_test

import (
	"encoding/binary"
	"math"
	"slices"
	"testing"

	"amnesia/api"
	"amnesia/tape"
)

// P22.4 and P22.5: Read and Salvage; of Read, P22.9.

// expectModel: Read and Salvage answer as the model.
func expectModel(t *testing.T, what string, b []byte) reading {
	t.Helper()
	r := modelRead(b)
	if r.e == api.OK {
		expectRead(t, b, r.setup, r.events...)
		if !slices.Equal(b, modelFile(r.setup, r.events)) {
			t.Fatal(what, "is no file, and is read")
		}
	} else {
		expectWrong(t, what, b, r.e, r.at)
	}
	expectSaved(t, what, b, r.saved, r.setup, r.events...)
	return r
}

// expectBroken: Read refuses it with that error at that place, and what stands ahead of that is saved; here the two places are one.
func expectBroken(t *testing.T, what string, b []byte, want api.Errno, place int, s api.Setup, events ...api.Event) {
	t.Helper()
	expectWrong(t, what, b, want, place)
	expectSaved(t, what, b, place, s, events...)
	if r := modelRead(b); r.e != want || r.at != place || r.saved != place {
		t.Fatal(what, "the model says otherwise:", r)
	}
}

// frames: a file's chunks, and what stands behind the last one.
func frames(t *testing.T, b []byte) ([][]byte, []byte) {
	t.Helper()
	var l [][]byte
	for p := 0; len(b)-p > 4; {
		body, e := modelBody(b, p)
		if e != api.OK {
			t.Fatal("the test's own file is none")
		}
		l = append(l, b[p:p+12+len(body)])
		p += 12 + len(body)
	}
	return l, b[len(b)-4:]
}

// ends: the places behind each of a file's chunks.
func ends(l [][]byte) []int {
	var places []int
	at := 0
	for _, frame := range l {
		at += len(frame)
		places = append(places, at)
	}
	return places
}

// ahead: so many of a file's events stand in its first chunks, up to that place.
func ahead(t *testing.T, b []byte, place int) int {
	t.Helper()
	l, _ := frames(t, b)
	n := 0
	for i, end := range ends(l) {
		body, _ := modelBody(b, end-len(l[i]))
		if _, events, _, is := modelPiece(body); is && end <= place {
			n += len(events)
		}
	}
	return n
}

// aFile: 70 events of all kinds in three chunks, and what they are.
func aFile(t *testing.T) ([]byte, api.Setup, []api.Event) {
	t.Helper()
	s := setupOf(five, 0, 7, greatest)
	return file(t, s, mixed(70)...), s, mixed(70)
}

func TestReadOfWholeFiles(t *testing.T) {
	for _, s := range someSetups() {
		for _, n := range []int{0, 1, 31, 32, 33, 64, 65, 200} {
			b := file(t, s, mixed(n)...)
			if r := expectModel(t, "whole", b); r.e != api.OK || r.saved != len(b) {
				t.Fatal(r)
			}
			expectRead(t, modelFile(s, mixed(n)), s, mixed(n)...)
		}
	}
}

// P22.10: cut off at every place.
func TestCutOff(t *testing.T) {
	t.Parallel()
	for _, n := range []int{0, 1, 32, 33, 70, 128} {
		s, events := setupOf(five, 0, 7, greatest), mixed(n)
		b := file(t, s, events...)
		l, _ := frames(t, b)
		for cut := range b {
			whole := 0
			for _, end := range ends(l) {
				if end <= cut {
					whole = end
				}
			}
			saved := s
			if cut < len(l[0]) {
				saved = api.Setup{}
			}
			expectBroken(t, "cut off", b[:cut], api.ErrCut, whole, saved, events[:ahead(t, b, whole)]...)
			expectModel(t, "cut off", slices.Clone(b[:cut]))
		}
	}
}

// Great chunks, cut off around their borders.
func TestCutOffGreatChunks(t *testing.T) {
	t.Parallel()
	events := []api.Event{inject(16384), inject(16000), inject(16384), inject(16384), drop(1), inject(9)}
	b := file(t, chapter, events...)
	l, _ := frames(t, b)
	for _, end := range append(ends(l), 0, 32768, len(b)) {
		for cut := max(0, end-13); cut <= min(len(b), end+13); cut++ {
			r := expectModel(t, "cut off", b[:cut])
			if cut < len(b) && (r.e != api.ErrCut || r.at != r.saved || !sameEvents(r.events, events[:ahead(t, b, cut)])) {
				t.Fatal(cut, r.e, r.at)
			}
		}
	}
}

// P22.11, byte by byte: each single byte changed, to each other one.
func TestEachByteChanged(t *testing.T) {
	t.Parallel()
	for _, n := range []int{0, 3, 34} {
		s, events := setupOf(three, 5), mixed(n)[:n]
		b := file(t, s, events...)
		l, _ := frames(t, b)
		for at := range b {
			place := 0
			for _, end := range ends(l) {
				if end <= at {
					place = end
				}
			}
			saved := s
			if place == 0 {
				saved = api.Setup{}
			}
			left := events[:ahead(t, b, place)]
			for mask := 1; mask < 256; mask++ {
				if n > 3 && mask&(mask-1) != 0 && mask != 255 {
					continue // of a longer file each bit alone, and all
				}
				b[at] ^= byte(mask)
				_, _, e, got := tape.Read(b)
				if e == api.OK || got != place {
					t.Fatal(at, mask, e, got)
				}
				if inFrame := at - place; inFrame < 4 || inFrame > 7 {
					want := api.ErrTape
					if place == len(b)-4 {
						want = api.ErrIndex
					}
					expectBroken(t, "a byte changed", b, want, place, saved, left...)
				}
				expectSaved(t, "a byte changed", b, place, saved, left...)
				expectModel(t, "a byte changed", b)
				b[at] ^= byte(mask)
			}
		}
	}
}

// P22.11: bits of a chunk turned that lie within 32 of one another.
func TestBitsTurned(t *testing.T) {
	t.Parallel()
	r := seeded(4)
	b, s, events := aFile(t)
	l, _ := frames(t, b)
	for i, end := range ends(l) {
		place := end - len(l[i])
		saved, left := s, events[:ahead(t, b, place)]
		if i == 0 {
			saved = api.Setup{}
		}
		for bit := range 8 * len(l[i]) {
			for range 3 {
				bad := slices.Clone(b)
				mask := pick(r, 1, 1+1<<31, r.Uint32()|1)
				for turned := range 32 {
					if at := bit + turned; mask>>turned&1 == 1 && at < 8*len(l[i]) {
						bad[place+at/8] ^= 1 << (at % 8)
					}
				}
				if _, _, e, at := tape.Read(bad); e == api.OK || at != place {
					t.Fatal(bit, e, at)
				}
				expectSaved(t, "bits turned", bad, place, saved, left...)
			}
		}
	}
}

// What a frame must be, in the order in which it is asked.
func TestFrames(t *testing.T) {
	whole, s, events := aFile(t)
	l, tail := frames(t, whole)
	for i := range l {
		before := slices.Concat(l[:i]...)
		place := len(before)
		saved, left := s, events[:ahead(t, whole, place)]
		if i == 0 {
			saved = api.Setup{}
		}
		expect := func(what string, want api.Errno, behind ...[]byte) {
			t.Helper()
			expectBroken(t, what, append(slices.Clone(before), slices.Concat(behind...)...), want, place, saved, left...)
		}
		sized := func(n uint32) []byte { return binary.BigEndian.AppendUint32([]byte("amn1"), n) }
		body := l[i][8 : len(l[i])-4]
		for n := range 12 {
			expect("fewer than 12 bytes", api.ErrCut, slices.Repeat([]byte{'x'}, n))
			expect("fewer than 12 bytes, and too long", api.ErrCut, sized(math.MaxUint32), make([]byte, max(0, n-8))[:max(0, n-8)])
		}
		for at := range 4 {
			bad := slices.Clone(l[i])
			bad[at]++
			expect("another beginning", api.ErrTape, bad)
			expect("another beginning, 12 bytes", api.ErrTape, bad[:12])
			expect("another beginning, 11 bytes", api.ErrCut, bad[:11])
		}
		for _, n := range []uint32{32768 - 11, 32768, 65536, 1 << 31, math.MaxUint32} {
			expect("too long", api.ErrTape, sized(n), make([]byte, 4))
			expect("too long, and there", api.ErrTape, sized(n), make([]byte, 70000))
		}
		expect("the longest, cut off", api.ErrCut, sized(32768-12), make([]byte, 4))
		expect("the longest, cut off", api.ErrCut, sized(32768-12), make([]byte, 32768-9))
		expect("the longest, of another sum", api.ErrTape, sized(32768-12), make([]byte, 32768-8))
		expect("one byte fewer", api.ErrTape, sized(uint32(len(body)-1)), body, l[i][len(l[i])-4:], tail)
		expect("a longer one, cut off", api.ErrCut, sized(uint32(len(body)+1)), body, l[i][len(l[i])-4:])
		expect("a longer one, of another sum", api.ErrTape, sized(uint32(len(body)+1)), body, l[i][len(l[i])-4:], tail)
		expect("no body", api.ErrTape, framed())
		expect("its body alone", api.ErrTape, body)
		wrongSum := slices.Clone(l[i])
		slices.Reverse(wrongSum[len(wrongSum)-4:])
		expect("the sum the other way round", api.ErrTape, wrongSum, tail)
	}
}

// Heads that may not be, each for one reason; all else is right.
func TestHeads(t *testing.T) {
	head := modelHead(setupOf(three, 5, 6))
	good := setupOf(three, 5, 6)
	expectRead(t, laidOut(0, head), good)
	wrong := map[string][]byte{
		"no body":                 {},
		"an event chunk":          piece(0, put(t, drop(1))),
		"a foot":                  modelFoot(nil, 0),
		"a version 0":             append(numbers(1, 0), head[4:]...),
		"a version 2":             append(numbers(1, 2), head[4:]...),
		"a kind 0":                append(numbers(0, 1), head[4:]...),
		"a kind 4":                append(numbers(4, 1), head[4:]...),
		"the kind and no version": append(numbers(1), head[4:]...),
		"bytes behind it":         append(slices.Clone(head), 0),
		"a client behind it":      append(slices.Clone(head), 1, 7),
		"a client fewer":          head[:len(head)-2],
		"unguarded 2":             numbers(1, 1, 1, 4, 6, 2, 2, 5, 6),
		"unguarded 255":           numbers(1, 1, 1, 4, 6, 255, 2, 5, 6),
		"17 clients":              numbers(append([]int{1, 1, 1, 4, 6, 0, 17}, make([]int, 17)...)...),
		"a client's number":       append(numbers(1, 1, 1, 4, 6, 0, 2, 5), number(math.MaxInt64+1)...),
		"a client's number 2":     append(numbers(1, 1, 1, 4, 6, 0, 2, 5), number(math.MaxUint64)...),
		"clients beyond counting": append(numbers(1, 1, 1, 4, 6, 0), number(math.MaxUint64)...),
		"F beyond counting":       slices.Concat(numbers(1, 1), number(math.MaxUint64), numbers(4, 6, 0, 0)),
		"F 2^32 + 1":              numbers(1, 1, 1<<32+1, 4, 6, 0, 0),
		"Room 2^32 + 4":           numbers(1, 1, 1, 1<<32+4, 6, 0, 0),
		"Patience 2^32 + 6":       numbers(1, 1, 1, 4, 1<<32+6, 0, 0),
	}
	for _, c := range wrongConfigs() {
		if c.F >= 0 && c.Room >= 0 && c.Patience >= 0 {
			wrong["a configuration that may not be"] = modelHead(api.Setup{Config: c})
			expectBroken(t, "a configuration that may not be", laidOut(0, modelHead(api.Setup{Config: c})), api.ErrTape, 0, api.Setup{})
		}
	}
	for n := range head {
		wrong["cut off"] = head[:n]
		expectBroken(t, "cut off", laidOut(0, head[:n]), api.ErrTape, 0, api.Setup{})
	}
	for what, body := range wrong {
		expectBroken(t, what, laidOut(0, body), api.ErrTape, 0, api.Setup{})
		expectBroken(t, what, laidOut(1, body, piece(0, put(t, drop(1)))), api.ErrTape, 0, api.Setup{})
		expectBroken(t, what, framed(body), api.ErrTape, 0, api.Setup{})
	}
	c := &cursor{b: head}
	for len(c.b) > 0 {
		before := head[:len(head)-len(c.b)]
		v := c.number(math.MaxUint64)
		expectBroken(t, "a longer form", laidOut(0, slices.Concat(before, longer(v), c.b)), api.ErrTape, 0, api.Setup{})
	}
}

// A head that says another setup, which may be: it is its digest that tells.
func TestAnotherHead(t *testing.T) {
	b, s, events := aFile(t)
	l, tail := frames(t, b)
	for _, other := range append(someSetups(), setupOf(five, 0, 7, greatest-1), setupOf(five, 0, 8, greatest)) {
		if sameSetup(other, s) {
			t.Fatal("it is the same")
		}
		head := framed(modelHead(other))
		bad := slices.Concat(head, slices.Concat(l[1:]...), tail)
		expectBroken(t, "another head", bad, api.ErrIndex, len(bad)-4-len(l[len(l)-1]), other, events...)
		expectRead(t, laidOut(70, modelHead(other), pieces(events)...), other, events...)
	}
}

// Event chunks that may not be, each for one reason, in each chunk's stead; all else is right.
func TestEventChunks(t *testing.T) {
	t.Parallel()
	events := mixed(70)
	right := pieces(events)
	head := modelHead(chapter)
	for i, first := range []int{0, 32, 64} {
		n := min(32, 70-first)
		var own [][]byte
		for _, e := range events[first : first+n] {
			own = append(own, put(t, e))
		}
		with := func(at int, b []byte) [][]byte {
			l := slices.Clone(own)
			l[at] = b
			return l
		}
		texts := right[i][len(numbers(2, first, n)):]
		wrong := map[string][]byte{
			"no body":                   {},
			"a kind 0":                  append(numbers(0, first, n), texts...),
			"a kind 4":                  append(numbers(4, first, n), texts...),
			"a head":                    head,
			"the next first event":      append(numbers(2, first+1, n), texts...),
			"a far first event":         append(numbers(2, first+1<<32, n), texts...),
			"a first beyond counting":   slices.Concat(numbers(2), number(math.MaxUint64), numbers(n), texts),
			"no events":                 numbers(2, first, 0),
			"no events, and texts":      append(numbers(2, first, 0), texts...),
			"one more than there are":   append(numbers(2, first, n+1), texts...),
			"one fewer than there are":  append(numbers(2, first, n-1), texts...),
			"33 events":                 piece(first, append(slices.Clone(own), slices.Repeat([][]byte{put(t, drop(1))}, 33-n)...)...),
			"events beyond counting":    slices.Concat(numbers(2, first), number(math.MaxUint64), texts),
			"bytes behind it":           append(slices.Clone(right[i]), 0),
			"an event behind it":        append(slices.Clone(right[i]), text(own[0])...),
			"an event without bytes":    piece(first, with(n-1, nil)...),
			"an event of no kind":       piece(first, with(0, numbers(13, 0))...),
			"an event cut off":          piece(first, with(n-1, own[n-1][:len(own[n-1])-1])...),
			"an event with a tail":      piece(first, with(n/2, append(slices.Clone(own[n/2]), 0))...),
			"an event in a longer form": piece(first, with(n/2, slices.Concat(numbers(4), longer(5)))...),
			"an event below its least":  piece(first, with(0, slices.Concat(numbers(4), number(math.MaxInt64+1)))...),
			"too long a value":          piece(first, with(0, slices.Concat(numbers(1, 0, 1, 1), text(make([]byte, 65))))...),
			"too many bytes":            piece(first, put(t, drop(1)), slices.Concat(numbers(7, 0, 0), text(make([]byte, 16385)))),
		}
		if first > 0 {
			wrong["an earlier first event"] = append(numbers(2, first-1, n), texts...)
			wrong["the file's first event"] = append(numbers(2, 0, n), texts...)
		}
		for at, v := range []uint64{2, uint64(first), uint64(n)} {
			l := [][]byte{number(2), number(uint64(first)), number(uint64(n)), texts}
			l[at] = longer(v)
			wrong["a longer form "+string(rune('0'+at))] = slices.Concat(l...)
		}
		wrong["a longer text's length"] = slices.Concat(numbers(2, first, n), longer(uint64(len(own[0]))), texts[1+texts[0]:])
		for cut := range right[i] {
			wrong["cut off"] = right[i][:cut]
			expectChunk(t, "cut off", head, right, i, right[i][:cut], events[:first])
		}
		for what, body := range wrong {
			expectChunk(t, what, head, right, i, body, events[:first])
		}
	}
}

// expectChunk: with that body in the stead of one event chunk the file is refused there, and what stands ahead is saved; be there a foot that fits or not.
func expectChunk(t *testing.T, what string, head []byte, right [][]byte, i int, body []byte, left []api.Event) {
	t.Helper()
	bodies := slices.Clone(right)
	bodies[i] = body
	place := len(framed(head))
	for _, b := range bodies[:i] {
		place += len(framed(b))
	}
	b := laidOut(70, head, bodies...)
	expectBroken(t, what, b, api.ErrTape, place, chapter, left...)
	expectBroken(t, what, b[:place+len(framed(body))], api.ErrTape, place, chapter, left...)
}

// Events laid into chunks otherwise than a tape does it.
func TestLaidOtherwise(t *testing.T) {
	events := mixed(70)
	split := func(sizes ...int) []byte {
		var bodies [][]byte
		at := 0
		for _, n := range sizes {
			var l [][]byte
			for _, e := range events[at : at+n] {
				l = append(l, put(t, e))
			}
			bodies = append(bodies, piece(at, l...))
			at += n
		}
		return laidOut(70, modelHead(chapter), bodies...)
	}
	whole := split(32, 32, 6)
	expectRead(t, whole, chapter, events...)
	for _, x := range []struct {
		sizes []int
		wrong int // the first chunk that may not be
	}{
		{[]int{31, 32, 7}, 1}, {[]int{1, 32, 32, 5}, 1}, {[]int{32, 31, 7}, 2}, {[]int{32, 1, 31, 6}, 2}, {[]int{32, 32, 5, 1}, 3}, {[]int{32, 32, 1, 5}, 3}, {slices.Repeat([]int{1}, 70), 1}, {slices.Repeat([]int{10}, 7), 1},
	} {
		b := split(x.sizes...)
		l, _ := frames(t, b)
		left := 0
		for _, n := range x.sizes[:x.wrong] {
			left += n
		}
		expectBroken(t, "laid otherwise", b, api.ErrTape, ends(l)[x.wrong], chapter, events[:left]...)
	}
	// By their bytes: the second chunk's first event would have gone into the first one, to its last byte.
	room := 32768 - 12 - 5
	for second, want := range map[int]api.Errno{room - 16380 - 1: api.ErrTape, room - 16380: api.ErrTape, room - 16380 + 1: api.OK} {
		a, b := sized(t, 16380), sized(t, second)
		file := laidOut(2, modelHead(chapter), piece(0, put(t, a)), piece(1, put(t, b)))
		if want == api.OK {
			expectRead(t, file, chapter, a, b)
			expectSaved(t, "one byte too many", file, len(file), chapter, a, b)
			continue
		}
		expectBroken(t, "it would have gone into the chunk ahead", file, want, 26+len(framed(piece(0, put(t, a)))), chapter, a)
	}
	// It is the first event alone that is asked, not the whole chunk.
	for second, want := range map[int]api.Errno{room - 16380: api.ErrTape, room - 16380 + 1: api.OK} {
		a, b, c := sized(t, 16380), sized(t, second), sized(t, 16000)
		file := laidOut(3, modelHead(chapter), piece(0, put(t, a)), piece(1, put(t, b), put(t, c)))
		if want == api.OK {
			expectRead(t, file, chapter, a, b, c)
			continue
		}
		expectBroken(t, "its first event would have gone into the chunk ahead", file, want, 26+len(framed(piece(0, put(t, a)))), chapter, a)
	}
}

// Chunks left out, laid twice, or in another order: with the foot that was there, and with one that fits.
func TestChunksMoved(t *testing.T) {
	whole, s, events := aFile(t)
	l, tail := frames(t, whole)
	foot := len(l) - 1
	met := make(map[api.Errno]int)
	expect := func(what string, l [][]byte) {
		t.Helper()
		b := slices.Concat(slices.Concat(l...), tail)
		if slices.Equal(b, whole) {
			return
		}
		r := expectModel(t, what, b)
		if r.e == api.OK || r.at != r.saved || !sameEvents(r.events, events[:len(r.events)]) {
			t.Fatal(what, "is read")
		}
		met[r.e]++
	}
	refooted := func(what string, l [][]byte, want api.Errno) {
		t.Helper()
		var bodies [][]byte
		for _, frame := range l[1:] {
			bodies = append(bodies, frame[8:len(frame)-4])
		}
		b := laidOut(70, l[0][8:len(l[0])-4], bodies...)
		if r := expectModel(t, what, b); r.e != want {
			t.Fatal(what, r.e)
		}
	}
	for i := range l {
		out := slices.Delete(slices.Clone(l), i, i+1)
		expect("left out", out)
		twice := slices.Insert(slices.Clone(l), i, l[i])
		expect("twice", twice)
		for j := range l {
			moved := slices.Clone(l)
			moved[i], moved[j] = moved[j], moved[i]
			expect("moved", moved)
			expect("in another's stead", slices.Replace(slices.Clone(l), i, i+1, l[j]))
			expect("one more", slices.Insert(slices.Clone(l), i, l[j]))
			if 0 < i && i < j && j < foot {
				refooted("moved", moved[:foot], api.ErrTape)
			}
		}
		if 0 < i && i < foot {
			want := api.ErrTape
			if i == foot-1 {
				want = api.ErrIndex // nothing is missing but what the foot tells of
			}
			refooted("left out", out[:foot-1], want)
			refooted("twice", twice[:foot+1], api.ErrTape)
		}
	}
	expectEnough(t, met, map[api.Errno]int{api.ErrTape: 20, api.ErrIndex: 1, api.ErrCut: 1})
	place := ends(l)
	expectBroken(t, "without its head", slices.Concat(slices.Concat(l[1:]...), tail), api.ErrTape, 0, api.Setup{})
	expectBroken(t, "without its first events", slices.Concat(l[0], l[2], l[3], l[4], tail), api.ErrTape, place[0], s)
	expectBroken(t, "without its last events", slices.Concat(l[0], l[1], l[2], l[4], tail), api.ErrIndex, place[2], s, events[:64]...)
	expectBroken(t, "without its foot", slices.Concat(l[0], l[1], l[2], l[3], tail), api.ErrCut, place[3], s, events...)
	expectBroken(t, "two heads", slices.Concat(l[0], whole), api.ErrTape, place[0], s)
	expectBroken(t, "two feet", slices.Concat(slices.Concat(l...), l[4], tail), api.ErrIndex, place[4], s, events...)
	expectBroken(t, "two files", slices.Concat(whole, whole), api.ErrTape, len(whole), s, events...)
}

// Feet that do not fit, and feet that are none; the length behind them is always theirs.
func TestFeet(t *testing.T) {
	whole, s, events := aFile(t)
	l, _ := frames(t, whole)
	own := slices.Concat(l[:4]...)
	place := ends(l)
	sum := modelFoot(own, 0)[len(numbers(3, 0, 0)):]
	body := func(parts ...[]byte) []byte { return slices.Concat(parts...) }
	starts := numbers(place[0], place[1], place[2])
	turned := func(i int) []byte {
		b := slices.Clone(sum)
		b[i] ^= 1
		return b
	}
	expectRead(t, footed(own, body(numbers(3, 70, 3), starts, sum)), s, events...)
	for what, b := range map[string][]byte{
		"one event more":         body(numbers(3, 71, 3), starts, sum),
		"one event fewer":        body(numbers(3, 69, 3), starts, sum),
		"no events":              body(numbers(3, 0, 3), starts, sum),
		"events beyond counting": body(numbers(3), number(math.MaxUint64), numbers(3), starts, sum),
		"2^63 events":            body(numbers(3), number(math.MaxInt64+1), numbers(3), starts, sum),
		"one chunk fewer":        body(numbers(3, 70, 2, place[0], place[1]), sum),
		"no chunks":              body(numbers(3, 70, 0), sum),
		"one chunk more":         body(numbers(3, 70, 4), starts, numbers(place[3]), sum),
		"many chunks":            body(numbers(3, 70, 5000), starts, make([]byte, 4997), sum),
		"another place":          body(numbers(3, 70, 3, place[0]+1, place[1], place[2]), sum),
		"another last place":     body(numbers(3, 70, 3, place[0], place[1], place[2]-1), sum),
		"places the other way":   body(numbers(3, 70, 3, place[2], place[1], place[0]), sum),
		"a place 0":              body(numbers(3, 70, 3, 0, place[1], place[2]), sum),
		"place beyond counting":  body(numbers(3, 70, 3, place[0], place[1]), number(math.MaxUint64), sum),
		"a digest's first byte":  body(numbers(3, 70, 3), starts, turned(2)),
		"a digest's last byte":   body(numbers(3, 70, 3), starts, turned(33)),
		"no digest":              body(numbers(3, 70, 3), starts, text(make([]byte, 32))),
		"another file's digest":  modelFoot(own[1:], 70, place[0], place[1], place[2]),
	} {
		expectBroken(t, what, footed(own, b), api.ErrIndex, place[3], s, events...)
		expectBroken(t, what, slices.Concat(own, framed(b)), api.ErrIndex, place[3], s, events...)
		expectBroken(t, what, append(footed(own, b), 0), api.ErrIndex, place[3], s, events...)
	}
	wrong := map[string][]byte{
		"no body":                {},
		"a kind 0":               body(numbers(0, 70, 3), starts, sum),
		"a kind 4":               body(numbers(4, 70, 3), starts, sum),
		"31 bytes of a digest":   body(numbers(3, 70, 3), starts, text(sum[2:33])),
		"33 bytes of a digest":   body(numbers(3, 70, 3), starts, text(append(slices.Clone(sum[2:]), 0))),
		"no digest":              body(numbers(3, 70, 3), starts, text(nil)),
		"bytes behind it":        body(numbers(3, 70, 3), starts, sum, []byte{0}),
		"a second digest":        body(numbers(3, 70, 3), starts, sum, sum),
		"a place more":           body(numbers(3, 70, 3), starts, numbers(place[3]), sum),
		"a place fewer":          body(numbers(3, 70, 3, place[0], place[1]), sum),
		"a chunk more told":      body(numbers(3, 70, 4), starts, sum),
		"a chunk fewer told":     body(numbers(3, 70, 2), starts, sum),
		"chunks beyond counting": body(numbers(3, 70), number(math.MaxUint64), starts, sum),
		"2^63 chunks":            body(numbers(3, 70), number(math.MaxInt64+1), starts, sum),
		"2^32 + 3 chunks":        body(numbers(3, 70, 1<<32+3), starts, sum),
		"a longer kind":          body(longer(3), numbers(70, 3), starts, sum),
		"longer events":          body(numbers(3), longer(70), numbers(3), starts, sum),
		"longer chunks":          body(numbers(3, 70), longer(3), starts, sum),
		"a longer place":         body(numbers(3, 70, 3, place[0], place[1]), longer(uint64(place[2])), sum),
		"a longer length":        body(numbers(3, 70, 3), starts, longer(32), sum[2:]),
		"a head":                 l[0][8 : len(l[0])-4],
	}
	right := body(numbers(3, 70, 3), starts, sum)
	for n := range right {
		wrong["cut off "+string(rune(n))] = right[:n]
	}
	for what, b := range wrong {
		expectBroken(t, what, footed(own, b), api.ErrTape, place[3], s, events...)
		expectBroken(t, what, slices.Concat(own, framed(b)), api.ErrTape, place[3], s, events...)
	}
	// Of a file without events, too.
	empty := framed(modelHead(chapter))
	for _, b := range [][]byte{modelFoot(empty, 1), modelFoot(empty, 0, 26), modelFoot(empty, 0, 0), modelFoot(empty[1:], 0), modelFoot(empty, 1, 26)} {
		expectBroken(t, "of nothing", footed(empty, b), api.ErrIndex, 26, chapter)
	}
}

// What stands behind the foot.
func TestBehindTheFoot(t *testing.T) {
	whole, s, events := aFile(t)
	end := len(whole) - 4
	foot := whole[end:]
	for n := range 4 {
		expectBroken(t, "fewer than four bytes", whole[:end+n], api.ErrCut, end, s, events...)
		expectBroken(t, "fewer than four other bytes", append(slices.Clone(whole[:end]), make([]byte, n)...), api.ErrCut, end, s, events...)
	}
	size := binary.BigEndian.Uint32(foot)
	for _, n := range []uint32{0, size - 1, size + 1, size << 8, math.MaxUint32, uint32(len(whole)), size + 1<<31} {
		bad := binary.BigEndian.AppendUint32(slices.Clone(whole[:end]), n)
		expectBroken(t, "another length", bad, api.ErrIndex, end, s, events...)
		expectBroken(t, "another length, and more bytes", append(bad, 0), api.ErrIndex, end, s, events...)
	}
	lowest := binary.LittleEndian.AppendUint32(slices.Clone(whole[:end]), size)
	expectBroken(t, "the lowest byte first", lowest, api.ErrIndex, end, s, events...)
	for _, tail := range [][]byte{{0}, {255}, foot, whole, whole[:26], whole[end-int(size):], make([]byte, 70000)} {
		expectBroken(t, "more bytes", slices.Concat(whole, tail), api.ErrTape, len(whole), s, events...)
	}
}
