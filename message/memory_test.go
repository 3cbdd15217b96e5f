package message_test

import (
	"bytes"
	"math"
	"math/rand/v2"
	"slices"
	"testing"

	"amnesia/api"
	"amnesia/message"
)

// P7.5: whose memory is whose.

// A message of the kind whose lists have room behind their ends, with something in that room.
func roomy(c api.Config, k api.Kind) api.Msg {
	m := good(c, k)
	if len(m.Log) > 0 {
		m.Log = append(m.Log, entry(9, 999, write(9, "behind")), entry(10, 999, write(10, "behind")))[:len(m.Log)]
	}
	if len(m.Vector) > 0 {
		m.Vector = append(m.Vector, api.Draw{Hi: 77, Lo: 77}, api.Draw{Hi: 78})[:len(m.Vector)]
	}
	return m
}

// whole: the message with all that its lists have room for.
func whole(m api.Msg) api.Msg {
	m.Log = slices.Clone(m.Log[:cap(m.Log)])
	m.Vector = slices.Clone(m.Vector[:cap(m.Vector)])
	return m
}

// spoil writes over all that a message's lists reach, their spare room too.
func spoil(m api.Msg) {
	for i := range m.Log[:cap(m.Log)] {
		m.Log[:cap(m.Log)][i] = entry(99, 99, write(99, "spoilt"))
	}
	for i := range m.Vector[:cap(m.Vector)] {
		m.Vector[:cap(m.Vector)][i] = api.Draw{Hi: 99, Lo: 99}
	}
}

func spoilBytes(b []byte) {
	for i := range b[:cap(b)] {
		b[:cap(b)][i] ^= 0xa5
	}
}

func TestGivenMessagesStay(t *testing.T) {
	for _, k := range allKinds() {
		m, other := roomy(small, k), roomy(small, k)
		before := whole(m)
		for _, c := range append(configs(), api.Config{}) {
			message.Check(c, m)
			message.Encode(c, m)
			message.Alike(m, other)
			message.Alike(other, m)
			message.Alike(m, m)
			if !same(whole(m), before) || !same(whole(other), before) {
				t.Fatalf("kind %d: what was given is changed: %+v", k, whole(m))
			}
		}
	}
}

func TestGivenFramesStay(t *testing.T) {
	for _, k := range allKinds() {
		f := encoded(t, small, good(small, k))
		room := append(slices.Clone(f), "BEHIND"...)
		before := slices.Clone(room)
		for n := 0; n <= len(room); n++ {
			message.Decode(small, room[:n])
			message.Decode(api.Config{}, room[:n])
			if !bytes.Equal(room, before) {
				t.Fatalf("kind %d: the frame is changed", k)
			}
		}
	}
}

// A frame shares nothing with its message, nor with another frame.
func TestFramesAreNewMemory(t *testing.T) {
	for _, k := range allKinds() {
		m := roomy(small, k)
		before := whole(m)
		f, other := encoded(t, small, m), encoded(t, small, m)
		want := slices.Clone(f)
		spoilBytes(append(other, 1))
		spoilBytes(other)
		if !bytes.Equal(f, want) || !same(whole(m), before) {
			t.Fatalf("kind %d: a frame lies over something else", k)
		}
		spoil(m)
		if !bytes.Equal(f, want) {
			t.Fatalf("kind %d: the frame has turned with its message", k)
		}
		if !bytes.Equal(encoded(t, small, good(small, k)), want) {
			t.Fatalf("kind %d: another frame the second time", k)
		}
	}
}

// A decoded message shares nothing with its frame, with another one of that frame, and its lists nothing with one another.
func TestMessagesAreNewMemory(t *testing.T) {
	for _, k := range allKinds() {
		want := good(small, k)
		f := encoded(t, small, want)
		before := slices.Clone(f)
		a, _ := message.Decode(small, f)
		b, _ := message.Decode(small, f)
		b.Log = append(b.Log, api.Entry{})
		b.Vector = append(b.Vector, api.Draw{})
		spoil(b)
		c, _ := message.Decode(small, f)
		spoil(c)
		if !bytes.Equal(f, before) || !same(a, want) {
			t.Fatalf("kind %d: a message lies over something else", k)
		}
		spoilBytes(f)
		if !same(a, want) {
			t.Fatalf("kind %d: the message has turned with its frame: %+v", k, a)
		}
	}
}

// Nothing is kept from call to call, not even behind an error.
func TestNothingIsKept(t *testing.T) {
	r := rand.New(rand.NewPCG(7, 10))
	for range 3000 {
		m := someMsg(r, small, pick(r, allKinds()...))
		want := frameOf(wantBody(m))
		message.Encode(small, spoilt(r, small, m))
		message.Decode(small, want[:r.IntN(len(want))])
		message.Decode(small, frameOf(wantBody(someMsg(r, small, pick(r, allKinds()...)))))
		if f := encoded(t, small, m); !bytes.Equal(f, want) {
			t.Fatalf("%+v: %v", m, f)
		}
		expectDecode(t, small, want, m)
	}
}

// P1 and P5: every call ends, with numbers at their ends and any lists.
func TestEveryCallEnds(t *testing.T) {
	numbers := append([]int{0, 1, 2, 3, 14, 15, 256, 1 << 32}, wild...)
	logs := [][]api.Entry{nil, {}, make([]api.Entry, 1), make([]api.Entry, 300), logOf(300), {entry(math.MinInt, math.MinInt, api.Op{Kind: math.MinInt, Slot: math.MinInt})}}
	vectors := []api.Vector{nil, {}, make(api.Vector, 1), make(api.Vector, 3), make(api.Vector, 9000)}
	r := rand.New(rand.NewPCG(7, 11))
	for range 40000 {
		m := api.Msg{
			Kind: api.Kind(pick(r, 1+r.IntN(14), pick(r, numbers...))), Node: pick(r, numbers...), View: pick(r, numbers...), Last: pick(r, numbers...),
			Place: pick(r, numbers...), Commit: pick(r, numbers...), Draw: someDraw(r, 0), Log: pick(r, logs...), Vector: pick(r, vectors...),
			Entry:  entry(pick(r, numbers...), pick(r, numbers...), api.Op{Kind: pick(r, numbers...), Slot: pick(r, numbers...), Value: longest + longest}),
			Result: res(pick(r, numbers...), pick(r, numbers...), longest+longest),
		}
		c := api.Config{F: pick(r, 1, 2, 3, pick(r, numbers...)), Room: pick(r, 1, 256, pick(r, numbers...)), Patience: pick(r, 6, 6, 6, pick(r, numbers...))}
		want := wantCheck(c, m)
		expectCheck(t, c, m, want)
		message.Between(m.Kind)
		expectAlike(t, m, m, true)
	}
}

// Asked side by side of one message and one frame: none writes to what it was given.
func TestSideBySide(t *testing.T) {
	c := api.Config{F: 3, Room: 256, Patience: 6}
	m := good(c, api.KindStartView)
	f := encoded(t, c, m)
	ended := make(chan bool)
	for range 8 {
		go func() {
			g, e := message.Encode(c, m)
			back, e2 := message.Decode(c, f)
			ended <- e == api.OK && e2 == api.OK && bytes.Equal(f, g) && message.Alike(m, back) && message.Check(c, m) == api.OK
		}()
	}
	for range 8 {
		if !<-ended {
			t.Error("side by side: another answer")
		}
	}
}
