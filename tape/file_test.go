package tape_test

import (
	"encoding/binary"
	"slices"
	"testing"

	"amnesia/api"
	"amnesia/tape"
)

// P22.2 and P22.3: a tape and its file; P22.8: a tape that New did not make.

// expectTaped: the tape has these events, and its file is as the chapter lays it out; Read takes it, and all of it is saved.
func expectTaped(t *testing.T, x *tape.Tape, s api.Setup, events ...api.Event) {
	t.Helper()
	if x.Len() != len(events) {
		t.Fatal(x.Len(), len(events))
	}
	b, want := x.Bytes(), modelFile(s, events)
	if !slices.Equal(b, want) {
		t.Fatalf("a file of %d events has %d bytes, want %d", len(events), len(b), len(want))
	}
	var played []api.Event
	for _, e := range events {
		played = append(played, plain(e))
	}
	expectRead(t, b, s, played...)
	expectSaved(t, "whole", b, len(b), s, played...)
}

// chunksOf: how many events each chunk of a file has.
func chunksOf(t *testing.T, b []byte) []int {
	t.Helper()
	places, e := tape.Index(b)
	if e != api.OK {
		t.Fatal(e)
	}
	var l []int
	for _, p := range places {
		body, e := modelBody(b, p)
		_, events, _, is := modelPiece(body)
		if e != api.OK || !is {
			t.Fatal(p, e)
		}
		l = append(l, len(events))
	}
	return l
}

func TestFileOfNothing(t *testing.T) {
	for _, s := range someSetups() {
		expectTaped(t, taped(t, s), s)
		expectTaped(t, taped(t, s, drops(3)...), s, drops(3)...)
	}
	wide := file(t, setupOf(seven, greatest, greatest))
	want := []byte{1, 1, 1, 1, 1, 3, 2, 1, 0, 1, 100, 1, 1, 1, 2, 8, 127, 255, 255, 255, 255, 255, 255, 255, 8, 127, 255, 255, 255, 255, 255, 255, 255}
	if got := wide[8 : 8+len(want)]; !slices.Equal(got, want) || wide[7] != byte(len(want)) {
		t.Fatal(got)
	}
}

// As many events as a chunk takes, one fewer and one more, and so on.
func TestChunksOfFewBytes(t *testing.T) {
	for n := range 130 {
		b := file(t, chapter, drops(n)...)
		want := slices.Repeat([]int{32}, n/32)
		if n%32 > 0 {
			want = append(want, n%32)
		}
		if got := chunksOf(t, b); !slices.Equal(got, want) {
			t.Fatal(n, got)
		}
		expectTaped(t, taped(t, setupOf(five, 1, 2), mixed(n)...), setupOf(five, 1, 2), mixed(n)...)
	}
}

// sized: an event whose text has so many bytes, with its length; from 300 on.
func sized(t *testing.T, n int) api.Event {
	t.Helper()
	for beside := 9; beside <= 13; beside++ {
		if e := inject(n - beside); len(text(put(t, e))) == n {
			return e
		}
	}
	t.Fatal("no event has a text of so many bytes:", n)
	return api.Event{}
}

// Events that fill a chunk's body to the last byte, and one more.
func TestFullChunks(t *testing.T) {
	room := 32768 - 12 - 5 // of the first chunk, for texts
	for _, x := range []struct {
		texts []int
		want  []int
	}{
		{[]int{16380, room - 16380}, []int{2}},
		{[]int{16380, room - 16380 + 1}, []int{1, 1}},
		{[]int{16380, room - 16380 - 1}, []int{2}},
		{[]int{16380, room - 16380, 300}, []int{2, 1}},
		{[]int{16380, room - 16380 + 1, 300}, []int{1, 2}},
		{[]int{16000, 16000, room - 32000}, []int{3}},
		{[]int{16000, 16000, room - 32000 + 1}, []int{2, 1}},
		{append(slices.Repeat([]int{1000}, 31), room-31000), []int{32}},
		{append(slices.Repeat([]int{1000}, 31), room-31000+1), []int{31, 1}},
		{append(slices.Repeat([]int{1000}, 31), room-31000-1, 300), []int{32, 1}},
		{append(slices.Repeat([]int{1000}, 30), room-30000-300, 300, 300), []int{32, 1}},
		{append(slices.Repeat([]int{1000}, 30), room-30000-300, 301, 300), []int{31, 2}},
		// The number of a later chunk's first event is one of more bytes.
		{append(slices.Repeat([]int{300}, 32), 16380, room-16380-1), []int{32, 2}},
		{append(slices.Repeat([]int{300}, 32), 16380, room-16380), []int{32, 1, 1}},
		{append(slices.Repeat([]int{300}, 256), 16380, room-16380-2), append(slices.Repeat([]int{32}, 8), 2)},
		{append(slices.Repeat([]int{300}, 256), 16380, room-16380-1), append(slices.Repeat([]int{32}, 8), 1, 1)},
	} {
		var events []api.Event
		for _, n := range x.texts {
			events = append(events, sized(t, n))
		}
		tape := taped(t, chapter, events...)
		if got := chunksOf(t, tape.Bytes()); !slices.Equal(got, x.want) {
			t.Fatal(x.texts, got, x.want)
		}
		expectTaped(t, tape, chapter, events...)
	}
}

func TestAnyFiles(t *testing.T) {
	t.Parallel()
	r := seeded(2)
	for range 150 {
		s := pick(r, someSetups()...)
		var events []api.Event
		for range r.IntN(100) {
			e := goodEvent(r)
			if r.IntN(4) == 0 {
				e = inject(pick(r, r.IntN(16385), 16384, 16384-r.IntN(100), 1000))
			}
			events = append(events, e)
		}
		expectTaped(t, taped(t, s, events...), s, events...)
	}
}

// Bytes may be asked at any time, and changes nothing.
func TestBytesInTheMidst(t *testing.T) {
	events := append(mixed(70), inject(16384), inject(16384), inject(3), inject(16380))
	x := taped(t, chapter)
	var files [][]byte
	for i, e := range events {
		expectTaped(t, x, chapter, events[:i]...)
		files = append(files, x.Bytes())
		if e := x.Add(e); e != api.OK {
			t.Fatal(e)
		}
	}
	expectTaped(t, x, chapter, events...)
	for i, b := range files {
		if !slices.Equal(b, modelFile(chapter, events[:i])) {
			t.Fatal("an earlier answer has turned with the tape:", i)
		}
	}
}

func TestAddRefuses(t *testing.T) {
	t.Parallel()
	r := seeded(3)
	x := taped(t, chapter)
	var events []api.Event
	refused := make(map[api.Errno]int)
	for range 1000 {
		e := someEvent(r)
		_, want := modelPut(e)
		if got := x.Add(e); got != want {
			t.Fatal(got, want, e)
		}
		refused[want]++
		if want == api.OK {
			events = append(events, e)
		} else if x.Len() != len(events) || !slices.Equal(x.Bytes(), modelFile(chapter, events)) {
			t.Fatal("what is refused changes something")
		}
	}
	expectTaped(t, x, chapter, events...)
	expectEnough(t, refused, map[api.Errno]int{api.OK: 300, api.ErrEvent: 50, api.ErrLong: 20})
}

// As many events as there may be, and one more.
func TestMaxEvents(t *testing.T) {
	events := append(mixed(4093), inject(16384), inject(16384), drop(7))
	x := taped(t, chapter, events[:4095]...)
	if e := x.Add(events[4095]); e != api.OK {
		t.Fatal(e)
	}
	expectTaped(t, x, chapter, events...)
	full := x.Bytes()
	for _, y := range []struct {
		e    api.Event
		want api.Errno
	}{{drop(0), api.ErrEvents}, {drop(-1), api.ErrEvent}, {api.Event{}, api.ErrEvent}, {inject(16385), api.ErrLong}, {inject(16384), api.ErrEvents}} {
		if e := x.Add(y.e); e != y.want || x.Len() != 4096 || !slices.Equal(x.Bytes(), full) {
			t.Fatal(e, y.want, x.Len())
		}
	}
	// A file of one more is none.
	more := append(slices.Clone(events), drop(8))
	b := modelFile(chapter, more)
	places, e := tape.Index(b)
	if e != api.OK {
		t.Fatal(e)
	}
	last := places[len(places)-1]
	body, _ := modelBody(b, last)
	first, _, _, _ := modelPiece(body)
	expectWrong(t, "one more", b, api.ErrTape, last)
	expectSaved(t, "one more", b, last, chapter, events[:first]...)
	expectSought(t, "one more", b, 4090, 7, more[4090:]...) // Seek does not ask how many there are
	// One more behind a chunk of its own.
	b = modelFile(chapter, drops(4097))
	last = len(b) - 4 - int(binary.BigEndian.Uint32(b[len(b)-4:])) - len(framed(piece(4096, put(t, drop(4096)))))
	expectWrong(t, "one more", b, api.ErrTape, last)
	expectSaved(t, "one more", b, last, chapter, drops(4096)...)
}

// The longest file: each event is a chunk, and the foot fits its frame.
func TestLongestFile(t *testing.T) {
	if testing.Short() {
		t.Skip()
	}
	t.Parallel()
	e := inject(16384)
	e.Node, e.At = greatest, greatest
	events := slices.Repeat([]api.Event{e}, 4096)
	b := file(t, setupOf(seven), events...)
	if len(b) < 4096*16384 || !slices.Equal(b, modelFile(setupOf(seven), events)) {
		t.Fatal(len(b))
	}
	if l := chunksOf(t, b); !slices.Equal(l, slices.Repeat([]int{1}, 4096)) {
		t.Fatal(l)
	}
	expectRead(t, b, setupOf(seven), events...)
	expectSought(t, "the longest", b, 4000, 96, events[4000:]...)
}

func TestNewRefuses(t *testing.T) {
	for _, clients := range [][]api.ClientSetup{nil, {{}}, make([]api.ClientSetup, 17), {{Number: -1}}} {
		for _, c := range wrongConfigs() {
			if x, e := tape.New(api.Setup{Config: c, Clients: clients}); e != api.ErrConfig || x != nil {
				t.Fatal(e, c)
			}
		}
	}
	for _, numbers := range [][]int{make([]int, 17), make([]int, 1000), {-1}, {0, 1, -1}, {least, 0}, append(make([]int, 15), -1), append(make([]int, 16), -1)} {
		if x, e := tape.New(setupOf(three, numbers...)); e != api.ErrSetup || x != nil {
			t.Fatal(e, numbers)
		}
	}
}

// A nil Tape has nothing; a zero one does not panic.
func TestNoTape(t *testing.T) {
	var none *tape.Tape
	for range 2 {
		for _, e := range []api.Event{{}, drop(1), drop(-1), inject(16385)} {
			if e := none.Add(e); e != api.ErrMade {
				t.Fatal(e)
			}
		}
		if none.Len() != 0 || len(none.Bytes()) != 0 {
			t.Fatal(none.Len(), none.Bytes())
		}
	}
	var zero tape.Tape
	for range 40 {
		for _, e := range []api.Event{{}, drop(1), drop(-1), inject(16384), inject(16385)} {
			zero.Add(e)
		}
		zero.Len()
		zero.Bytes()
	}
}

// A tape that is copied as a value shares nothing that either writes.
func TestCopiedTape(t *testing.T) {
	for n := range 100 {
		x := taped(t, chapter, mixed(n)...)
		y := *x
		a, b := mixed(n), mixed(n)
		for i := range 70 {
			a, b = append(a, drop(i)), append(b, inject(i))
			if x.Add(drop(i)) != api.OK || y.Add(inject(i)) != api.OK {
				t.Fatal(i)
			}
		}
		if !slices.Equal(x.Bytes(), modelFile(chapter, a)) || !slices.Equal(y.Bytes(), modelFile(chapter, b)) {
			t.Fatal("a copy is written over:", n)
		}
	}
}
