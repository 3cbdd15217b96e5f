package tape_test

import (
	"crypto/sha256"
	"slices"
	"testing"

	"amnesia/api"
	"amnesia/tape"
)

// The chapter's examples.

func TestExample1(t *testing.T) {
	body := []byte{1, 1, 1, 1, 1, 1, 1, 4, 1, 6, 0, 1, 1, 0}
	head := framed(body)
	if len(body) != 14 || len(head) != 26 {
		t.Fatal(len(body), len(head))
	}
	sum := sha256.Sum256(head)
	foot := framed(slices.Concat([]byte{1, 3, 0, 0, 1, 32}, sum[:]))
	want := slices.Concat(head, foot, []byte{0, 0, 0, 50})
	if b := file(t, chapter); !slices.Equal(b, want) {
		t.Fatalf("% x, want % x", b, want)
	}
	expectRead(t, want, chapter)
}

func TestExample2(t *testing.T) {
	tick := api.Event{Kind: api.EventTick, Node: 1}
	x := taped(t, chapter, tick)
	expectPut(t, tick, []byte{1, 8, 1, 1, 0})
	if e := x.Add(api.Event{Kind: api.EventTick, Node: -1}); e != api.ErrEvent {
		t.Fatal(e)
	}
	if e := x.Add(api.Event{Kind: api.EventDrop, Index: 3, Node: -1}); e != api.OK {
		t.Fatal(e)
	}
	expectRead(t, x.Bytes(), chapter, tick, drop(3))
}

func TestExample3(t *testing.T) {
	b := file(t, chapter, drops(33)...)
	places, e := tape.Index(b)
	if e != api.OK || len(places) != 2 || places[0] != 26 {
		t.Fatal(places, e)
	}
	expectSought(t, "none", b, 33, 0)
	expectSought(t, "the last", b, 32, 1, drop(32))
	expectNotSought(t, "one too many", b, 33, 1, api.ErrArg)
}

func TestExample4(t *testing.T) {
	expectWrong(t, "no bytes", nil, api.ErrCut, 0)
	head := file(t, chapter)[:26]
	expectWrong(t, "a head alone", head, api.ErrCut, 26)
	expectSaved(t, "a head alone", head, 26, chapter)
}

func TestExample5(t *testing.T) {
	b := file(t, chapter, drops(33)...)
	places, _ := tape.Index(b)
	for at := 26; at < places[1]; at++ {
		b[at] ^= 1
		_, _, e, place := tape.Read(b)
		if at < 30 || at >= 34 { // of a length that is turned it may be told that the file is cut off
			expectWrong(t, "a byte turned", b, api.ErrTape, 26)
		} else if e == api.OK || place != 26 {
			t.Fatal(at, e, place)
		}
		expectSaved(t, "a byte turned", b, 26, chapter)
		b[at] ^= 1
	}
}
