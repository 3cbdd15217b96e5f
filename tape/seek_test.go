package tape_test

import (
	"encoding/binary"
	"math"
	"slices"
	"testing"

	"amnesia/api"
)

// P22.6, P22.7 and P22.12: Index and Seek.

// seeking: Index and some Seeks answer as the model; the error of Index.
func seeking(t *testing.T, what string, b []byte, asked ...[2]int) api.Errno {
	t.Helper()
	places, _, e := modelIndex(b)
	if e != api.OK {
		expectNoIndex(t, what, b, e)
		return e
	}
	expectIndex(t, what, b, places...)
	for _, x := range asked {
		want, e := modelSeek(b, x[0], x[1])
		if e == api.OK {
			expectSought(t, what, b, x[0], x[1], want...)
		} else {
			expectNotSought(t, what, b, x[0], x[1], e)
		}
	}
	return api.OK
}

// eachRange: every from and count around so many events, and numbers at their ends.
func eachRange(n int) [][2]int {
	var l [][2]int
	for from := -2; from <= n+2; from++ {
		for count := -2; count <= n+2; count++ {
			l = append(l, [2]int{from, count})
		}
	}
	for _, x := range []int{least, least + 1, -1, 0, 1, n - 1, n, 1 << 32, greatest - n, greatest - 1, greatest} {
		for _, y := range []int{least, least + 1, -1, 0, 1, n, 1 << 32, greatest - n, greatest - 1, greatest} {
			l = append(l, [2]int{x, y})
		}
	}
	return l
}

func TestIndexOfFiles(t *testing.T) {
	for _, s := range someSetups() {
		for _, n := range []int{0, 1, 31, 32, 33, 70, 128, 500} {
			b := file(t, s, mixed(n)...)
			l, _ := frames(t, b)
			expectIndex(t, "a file", b, ends(l)[:len(l)-2]...)
		}
	}
	b := file(t, chapter, inject(16384), inject(16384), inject(16000), inject(9), drop(1))
	l, _ := frames(t, b)
	if len(l) != 4 {
		t.Fatal(len(l))
	}
	expectIndex(t, "great chunks", b, ends(l)[:2]...)
}

// P22.12: what Seek answers of a file is what stands in Read's events there.
func TestSeekOfFiles(t *testing.T) {
	t.Parallel()
	great := slices.Concat(drops(3), []api.Event{inject(16384), inject(16384), inject(3), inject(16384)}, mixed(40))
	for _, events := range [][]api.Event{nil, mixed(1), mixed(32), mixed(33), mixed(70), great} {
		b := file(t, chapter, events...)
		for _, x := range eachRange(len(events)) {
			from, count := x[0], x[1]
			if from < 0 || count < 0 || from > len(events) || count > len(events)-from {
				expectNotSought(t, "beyond", b, from, count, api.ErrArg)
			} else {
				expectSought(t, "a file", b, from, count, events[from:from+count]...)
			}
		}
		seeking(t, "a file", b, eachRange(len(events))...)
	}
}

// Each chunk spoilt in turn: Seek does not mind those that it does not look at.
func TestSeekPastSpoiltChunks(t *testing.T) {
	t.Parallel()
	b, _, events := aFile(t)
	l, _ := frames(t, b)
	place := ends(l)
	for i, frame := range l[:4] {
		begin := place[i] - len(frame)
		for _, at := range []int{begin, begin + 7, begin + 9, begin + len(frame)/2, place[i] - 1} {
			b[at] ^= 2
			for from := range 71 {
				for count := range 71 - from {
					// The chunks are looked at from the last one down to that which has the first event, and on to that which has the last.
					looked := i > 0 && count > 0 && i >= 1+min(from/32, 2)
					if looked {
						expectNotSought(t, "spoilt", b, from, count, api.ErrTape)
					} else {
						expectSought(t, "spoilt elsewhere", b, from, count, events[from:from+count]...)
					}
				}
			}
			seeking(t, "spoilt", b, [][2]int{{0, 1}, {31, 2}, {64, 6}, {70, 0}, {70, 1}}...)
			b[at] ^= 2
		}
	}
}

// What Index asks of a file's tail.
func TestIndexOfTheTailAlone(t *testing.T) {
	b, _, events := aFile(t)
	l, _ := frames(t, b)
	place := ends(l)
	foot := slices.Concat(l[4], b[len(b)-4:])
	for n := range 4 {
		expectNoIndex(t, "fewer than four bytes", b[:n], api.ErrCut)
		expectNoIndex(t, "fewer than four bytes", make([]byte, n), api.ErrCut)
	}
	for n := range len(foot) - 4 {
		expectNoIndex(t, "a foot cut off ahead", foot[len(foot)-4-n:], api.ErrCut)
	}
	expectNoIndex(t, "a foot alone: its places are not below its own", foot, api.ErrIndex)
	expectNoIndex(t, "no frame", make([]byte, 4), api.ErrIndex)
	expectNoIndex(t, "no frame", make([]byte, 400), api.ErrIndex)
	for n := range len(l[4]) {
		ahead := slices.Concat(make([]byte, place[2]+1), l[4][:n])
		expectNoIndex(t, "cut off", binary.BigEndian.AppendUint32(ahead, uint32(n)), api.ErrIndex)
	}
	for _, n := range []uint32{uint32(len(b) - 3), uint32(len(b)), 1 << 31, math.MaxUint32} {
		expectNoIndex(t, "a length above all", binary.BigEndian.AppendUint32(slices.Clone(b[:len(b)-4]), n), api.ErrCut)
	}
	for _, n := range []uint32{0, 1, 11, 12, uint32(len(l[4]) - 1), uint32(len(l[4]) + 1), uint32(len(b) - 4)} {
		expectNoIndex(t, "another length", binary.BigEndian.AppendUint32(slices.Clone(b[:len(b)-4]), n), api.ErrIndex)
	}
	expectNoIndex(t, "more than a frame", binary.BigEndian.AppendUint32(make([]byte, 40000), 40000), api.ErrIndex)
	// Whatever stands ahead of the foot is not looked at, but for its length.
	zeros := slices.Concat(make([]byte, place[3]), foot)
	expectIndex(t, "nothing ahead", zeros, place[0], place[1], place[2])
	expectNotSought(t, "nothing ahead", zeros, 0, 1, api.ErrTape)
	expectNotSought(t, "nothing ahead", zeros, 69, 1, api.ErrTape)
	expectSought(t, "nothing ahead", zeros, 70, 0)
	expectNotSought(t, "nothing ahead", zeros, 70, 1, api.ErrArg)
	short := slices.Concat(make([]byte, place[2]+1), foot)
	expectIndex(t, "the last place is just below the foot's", short, place[0], place[1], place[2])
	expectNoIndex(t, "the last place is the foot's", short[1:], api.ErrIndex)
	long := slices.Concat(b[:place[3]], make([]byte, 100), foot)
	expectIndex(t, "more between", long, place[0], place[1], place[2])
	expectSought(t, "more between", long, 0, 70, events...)
}

// Each byte of a file changed, and the file cut off at each place and begun at each.
func TestSeekOfChangedFiles(t *testing.T) {
	t.Parallel()
	b, _, _ := aFile(t)
	asked := [][2]int{{0, 1}, {0, 70}, {31, 2}, {32, 32}, {64, 6}, {69, 1}, {70, 0}, {70, 1}, {-1, 0}, {0, 0}}
	met := make(map[api.Errno]int)
	for at := range b {
		for _, mask := range []byte{1, 128, 255} {
			b[at] ^= mask
			met[seeking(t, "changed", b, asked...)]++
			b[at] ^= mask
		}
		met[seeking(t, "cut off", b[:at], asked...)]++
		met[seeking(t, "begun later", b[at:], asked...)]++
		met[seeking(t, "longer", slices.Insert(slices.Clone(b), at, 0), asked...)]++
	}
	expectEnough(t, met, map[api.Errno]int{api.OK: 1000, api.ErrCut: 100, api.ErrIndex: 100})
}

// footedBy: a file with these chunks' bodies and a foot that tells so many events and these places.
func footedBy(events uint64, places []uint64, bodies ...[]byte) []byte {
	var ahead []byte
	for _, body := range bodies {
		ahead = append(ahead, framed(body)...)
	}
	foot := slices.Concat(numbers(3), number(events), numbers(len(places)))
	for _, p := range places {
		foot = append(foot, number(p)...)
	}
	return footed(ahead, append(foot, text(make([]byte, 32))...))
}

// Feet that tell what may not be, and those whose numbers are not a file's but may be.
func TestFeetByThemselves(t *testing.T) {
	body := make([]byte, 88) // 100 bytes ahead of the foot
	for _, x := range []struct {
		events uint64
		places []uint64
		want   api.Errno
	}{
		{0, nil, api.OK}, {1, []uint64{1}, api.OK}, {1, []uint64{99}, api.OK}, {1, []uint64{1, 99}, api.OK}, {7, []uint64{1, 2, 3}, api.OK},
		{math.MaxUint64, []uint64{1}, api.OK}, {math.MaxInt64 + 1, []uint64{1}, api.OK}, {2, []uint64{1, 2, 3}, api.OK},
		{1, nil, api.ErrIndex}, {math.MaxUint64, nil, api.ErrIndex}, {0, []uint64{1}, api.ErrIndex}, {0, []uint64{1, 2}, api.ErrIndex},
		{1, []uint64{0}, api.ErrIndex}, {1, []uint64{0, 1}, api.ErrIndex}, {1, []uint64{100}, api.ErrIndex}, {1, []uint64{101}, api.ErrIndex}, {2, []uint64{1, 100}, api.ErrIndex},
		{2, []uint64{1, 1}, api.ErrIndex}, {2, []uint64{2, 1}, api.ErrIndex}, {3, []uint64{1, 3, 2}, api.ErrIndex}, {3, []uint64{1, 3, 3}, api.ErrIndex}, {3, []uint64{2, 2, 3}, api.ErrIndex},
		{1, []uint64{math.MaxUint64}, api.ErrIndex}, {1, []uint64{1 << 63}, api.ErrIndex}, {1, []uint64{1<<32 + 1}, api.ErrIndex}, {2, []uint64{1, math.MaxUint64}, api.ErrIndex}, {2, []uint64{math.MaxUint64, 1}, api.ErrIndex},
	} {
		b := footedBy(x.events, x.places, body)
		if got := seeking(t, "by itself", b, eachRange(3)...); got != x.want {
			t.Fatal(x, got)
		}
		if x.want != api.OK {
			expectNoIndex(t, "by itself", b, x.want)
		}
	}
	// Its form, each in one way.
	sum := text(make([]byte, 32))
	for what, foot := range map[string][]byte{
		"no body": nil, "a kind 2": append(numbers(2, 0, 0), sum...), "a kind 4": append(numbers(4, 0, 0), sum...), "a kind 259": append(numbers(259, 0, 0), sum...),
		"31 bytes": append(numbers(3, 0, 0), text(make([]byte, 31))...), "33 bytes": append(numbers(3, 0, 0), text(make([]byte, 33))...), "no bytes": numbers(3, 0, 0, 0),
		"a tail": append(append(numbers(3, 0, 0), sum...), 0), "a longer form": slices.Concat(numbers(3, 0), []byte{1, 0}, sum), "a longer kind": slices.Concat(longer(3), numbers(0, 0), sum),
		"a place fewer": append(numbers(3, 2, 2, 1), sum...), "a place more": append(numbers(3, 2, 1, 1, 2), sum...), "chunks beyond counting": slices.Concat(numbers(3, 1), number(math.MaxUint64), numbers(1), sum),
		"a head": modelHead(chapter), "an event chunk": piece(0, []byte{1, 4, 0}),
	} {
		if b := footed(make([]byte, 100), foot); seeking(t, what, b, [2]int{0, 0}) != api.ErrIndex {
			t.Fatal(what)
		}
	}
	for n := range numbers(3, 2, 2, 1, 2) {
		if b := footed(make([]byte, 100), numbers(3, 2, 2, 1, 2)[:n]); seeking(t, "cut off", b, [2]int{0, 0}) != api.ErrIndex {
			t.Fatal(n)
		}
	}
	expectIndex(t, "right", footed(make([]byte, 100), append(numbers(3, 2, 2, 1, 2), sum...)), 1, 2)
	expectIndex(t, "nothing ahead, and no events", footed(nil, append(numbers(3, 0, 0), sum...)))
	expectSought(t, "nothing ahead, and no events", footed(nil, append(numbers(3, 0, 0), sum...)), 0, 0)
}

// chunk: an event chunk's body with events from first on, which have their numbers as Index.
func chunk(t *testing.T, first, n int) []byte {
	t.Helper()
	var l [][]byte
	for i := range n {
		l = append(l, put(t, drop(first+i)))
	}
	return piece(first, l...)
}

// Chunks that are right by themselves, and no file's.
func TestSeekOfChunksByThemselves(t *testing.T) {
	t.Parallel()
	type part struct{ first, n int }
	for _, parts := range [][]part{
		{{0, 3}, {3, 2}, {5, 1}}, {{0, 1}, {1, 1}, {2, 1}}, // they would have gone into one
		{{5, 3}, {8, 2}},                   // nothing stands ahead
		{{0, 3}, {4, 2}}, {{0, 3}, {2, 3}}, // one is missing, one is there twice
		{{3, 2}, {0, 3}}, {{0, 2}, {5, 2}, {2, 3}}, // in another order
		{{0, 2}, {0, 2}, {2, 2}}, {{0, 3}, {100, 2}}, // one twice, one far behind
		{{0, 2}, {2, 0}, {2, 2}}, {{0, 2}, {2, 33}, {35, 2}}, // too few, too many
		{{greatest - 1, 1}}, {{4090, 20}, {4110, 1}},
	} {
		var bodies [][]byte
		var places []uint64
		at := uint64(26)
		bodies = append(bodies, modelHead(chapter))
		for _, x := range parts {
			bodies = append(bodies, chunk(t, x.first, x.n))
			places = append(places, at)
			at += uint64(len(framed(bodies[len(bodies)-1])))
		}
		asked := append(eachRange(12), [2]int{4089, 1}, [2]int{4090, 21}, [2]int{4100, 11}, [2]int{4110, 2}, [2]int{greatest - 1, 1}, [2]int{greatest - 2, 1}, [2]int{greatest - 1, 2}, [2]int{99, 3}, [2]int{100, 2})
		for _, events := range []uint64{6, 8, 9, 10, 5000, math.MaxInt64, math.MaxUint64} {
			seeking(t, "by themselves", footedBy(events, places, bodies...), asked...)
			seeking(t, "one place fewer", footedBy(events, places[1:], bodies...), asked...)
			seeking(t, "the last place fewer", footedBy(events, places[:len(places)-1], bodies...), asked...)
			seeking(t, "one place beside", footedBy(events, append([]uint64{26 - 1}, places...), bodies...), asked...)
			seeking(t, "the head's place", footedBy(events, append([]uint64{1}, places...), bodies...), asked...)
			seeking(t, "the last byte's place", footedBy(events, append(slices.Clone(places), at-1), bodies...), asked...)
		}
	}
	b := footedBy(6, []uint64{26, 26 + uint64(len(framed(chunk(t, 0, 3))))}, modelHead(chapter), chunk(t, 0, 3), chunk(t, 3, 2))
	expectSought(t, "there", b, 1, 4, drops(5)[1:]...)
	expectNotSought(t, "none left", b, 1, 5, api.ErrTape)
	expectNotSought(t, "none left", b, 5, 1, api.ErrTape)
	b = footedBy(9, []uint64{26}, modelHead(chapter), chunk(t, 5, 3))
	expectNotSought(t, "none begins there", b, 4, 1, api.ErrTape)
	expectNotSought(t, "none begins there", b, 0, 9, api.ErrTape)
	expectSought(t, "there", b, 5, 1, drop(5))
	expectSought(t, "there", b, 6, 2, drop(6), drop(7))
	b = footedBy(9, []uint64{26, 26 + uint64(len(framed(chunk(t, 0, 3))))}, modelHead(chapter), chunk(t, 0, 3), chunk(t, 4, 2))
	expectSought(t, "ahead of the gap", b, 0, 3, drops(3)...)
	expectSought(t, "behind the gap", b, 4, 2, drop(4), drop(5))
	expectNotSought(t, "in the gap", b, 3, 1, api.ErrTape)
	expectNotSought(t, "over the gap", b, 2, 2, api.ErrTape)
	// The count is as great as can be: no room is made for it ahead.
	b = footedBy(math.MaxUint64, []uint64{26}, modelHead(chapter), chunk(t, 0, 3))
	expectNotSought(t, "as many as can be", b, 0, greatest, api.ErrTape)
	expectNotSought(t, "as many as can be", b, greatest, greatest, api.ErrTape)
	expectSought(t, "of very many", b, 0, 3, drops(3)...)
	// A first event beyond all counting.
	far := slices.Concat(numbers(2), number(math.MaxUint64), numbers(1), text(put(t, drop(7))))
	b = footedBy(math.MaxUint64, []uint64{26, 26 + uint64(len(framed(chunk(t, 0, 3))))}, modelHead(chapter), chunk(t, 0, 3), far)
	expectSought(t, "ahead of it", b, 0, 3, drops(3)...)
	expectNotSought(t, "up to it", b, 0, 4, api.ErrTape)
	expectNotSought(t, "none of an int's numbers", b, greatest, 1, api.ErrTape)
}

// Each reason for which a chunk is not right by itself.
func TestSeekOfWrongChunks(t *testing.T) {
	t.Parallel()
	good, own := chunk(t, 3, 2), put(t, drop(3))
	wrong := map[string][]byte{
		"no body": {}, "a head": modelHead(chapter), "a foot": modelFoot(nil, 0), "a kind 3": append(numbers(3), good[2:]...), "a kind 258": append(numbers(258), good[2:]...),
		"no events": numbers(2, 3, 0), "one fewer told": append(numbers(2, 3, 1), good[6:]...), "one more told": append(numbers(2, 3, 3), good[6:]...), "bytes behind": append(slices.Clone(good), 0),
		"33 events": chunk(t, 3, 33), "an event of no kind": piece(3, own, numbers(13)), "an event without bytes": piece(3, nil, own), "a tail": piece(3, own, append(slices.Clone(own), 0)),
		"a longer form": slices.Concat(numbers(2, 3), longer(2), good[6:]), "a longer first event": slices.Concat(numbers(2), longer(3), good[4:]), "a longer kind": slices.Concat(longer(2), good[2:]),
		"an event in a longer form": piece(3, own, slices.Concat(numbers(4), longer(5))), "too long a value": piece(3, own, slices.Concat(numbers(1, 0, 1, 1), text(make([]byte, 65)))),
	}
	for n := range good {
		wrong["cut off "+string(rune('a'+n))] = good[:n]
	}
	build := func(body []byte) []byte {
		ahead := slices.Concat(framed(modelHead(chapter)), framed(chunk(t, 0, 3)))
		behind := slices.Concat(ahead, framed(body))
		return footed(slices.Concat(behind, framed(chunk(t, 5, 1))), slices.Concat(numbers(3, 6, 3, 26, len(ahead), len(behind)), text(make([]byte, 32))))
	}
	expectSought(t, "right", build(good), 0, 6, drops(6)...)
	for what, body := range wrong {
		b := build(body)
		for from := range 7 {
			for count := range 7 - from {
				switch {
				case count == 0:
					expectSought(t, what, b, from, 0)
				case from == 5:
					expectSought(t, what, b, from, 1, drop(5))
				default:
					expectNotSought(t, what, b, from, count, api.ErrTape)
				}
			}
		}
		seeking(t, what, b, eachRange(7)...)
	}
}

// A chunk may stand in another one's event: its place is the foot's to tell.
func TestSeekOfNestedChunks(t *testing.T) {
	inner := framed(chunk(t, 5, 4))
	outer := piece(0, put(t, api.Event{Kind: api.EventInject, Bytes: inner}))
	head := framed(modelHead(chapter))
	at := uint64(len(head) + len(framed(outer)) - 4 - len(inner))
	b := footedBy(9, []uint64{at}, modelHead(chapter), outer)
	expectIndex(t, "nested", b, int(at))
	expectSought(t, "nested", b, 5, 4, drops(9)[5:]...)
	seeking(t, "nested", b, eachRange(9)...)
	seeking(t, "nested", footedBy(9, []uint64{26, at}, modelHead(chapter), outer), eachRange(9)...)
}
