package network_test

import (
	"testing"

	"amnesia/api"
)

// P14.3: Len, At, Take, Drop, Copy, Turn, Swap, Clear. (All that can be seen is looked at behind each call: with an error nothing has changed.)

// places: each place of a pool, and numbers that are none.
func places(length int) []int {
	l := append([]int{length, length + 1}, farNumbers...)
	for k := range length {
		l = append(l, k)
	}
	return l
}

func TestTakeInEveryPlace(t *testing.T) {
	for length := range 6 {
		for _, k := range places(length) {
			w := letters(t, length)
			w.take(k)
			w.send(packet(0, 1, "next"), api.OK)
			w.take(k)
		}
	}
}

func TestDropInEveryPlace(t *testing.T) {
	for length := range 6 {
		for _, k := range places(length) {
			w := letters(t, length)
			w.drop(k)
			w.inject(packet(0, 1, "next"), api.OK)
			w.drop(k)
		}
	}
}

func TestTakeAll(t *testing.T) {
	w := letters(t, 9)
	for i := range 9 {
		if p := w.take(0); string(p.Bytes) != "letter "+string(rune('a'+i)) {
			t.Fatal(i, p)
		}
	}
	w.take(0)
	w = letters(t, 9)
	for k := 8; k >= 0; k-- {
		w.drop(k)
	}
	w.drop(0)
}

func TestCopyInEveryPlace(t *testing.T) {
	for length := range 6 {
		for _, k := range places(length) {
			w := letters(t, length)
			w.copy(k)
			w.copy(length)
			w.drop(k)
		}
	}
}

// An injected packet's copy has its From, and is not in the record either.
func TestCopyOfInjected(t *testing.T) {
	w := paired(t, 3, 2, packet(0, 1, "a"))
	w.inject(packet(-4, 2, "x"), api.OK)
	w.copy(1)
	w.copy(0)
	if p := w.take(2); !same(p, packet(-4, 2, "x")) || w.net.Genuine(p) || w.net.Sent() != 1 {
		t.Error(p)
	}
}

func TestTurnInEveryPlace(t *testing.T) {
	for length := range 5 {
		for _, k := range places(length) {
			for _, at := range places(len("letter a")) {
				w := letters(t, length)
				w.turn(k, at, 0x5a)
			}
		}
	}
}

func TestTurnWithEveryMask(t *testing.T) {
	w := letters(t, 3)
	for mask := range 256 {
		w.turn(1, 7, byte(mask))
		w.turn(1, 8, byte(mask))
		w.turn(3, 0, byte(mask))
	}
}

// ErrPacket is asked ahead of ErrByte; a packet without bytes has none to turn.
func TestTurnErrors(t *testing.T) {
	w := letters(t, 2)
	for _, at := range farNumbers {
		if e := w.net.Turn(2, at, 1); e != api.ErrPacket {
			t.Error(at, e)
		}
		if e := w.net.Turn(1, at, 1); e != api.ErrByte {
			t.Error(at, e)
		}
	}
	w.send(api.Packet{From: 0, To: 1}, api.OK)
	if e := w.net.Turn(2, 0, 0); e != api.ErrByte {
		t.Error(e)
	}
	w.look()
}

// Of copies, of a packet that was sent twice, and of the record, one alone is turned.
func TestTurnOneOfTwo(t *testing.T) {
	for k := range 4 {
		w := letters(t, 1)
		w.copy(0)
		w.send(w.pool[0], api.OK)
		w.inject(w.pool[0], api.OK)
		w.turn(k, 0, 1)
		for i := range 4 {
			want := "letter a"
			if i == k {
				want = "metter a"
			}
			if p, e := w.net.At(i); e != api.OK || string(p.Bytes) != want {
				t.Error(k, i, p, e)
			}
		}
		if p, e := w.net.Record(0); e != api.OK || string(p.Bytes) != "letter a" {
			t.Error(p, e)
		}
	}
}

// A copy of a turned packet is as turned as that.
func TestCopyOfTurned(t *testing.T) {
	w := letters(t, 2)
	w.turn(1, 7, 2)
	w.copy(1)
	w.turn(1, 7, 2)
	if p, _ := w.net.At(2); w.net.Genuine(p) {
		t.Error(p)
	}
	if p, _ := w.net.At(1); !w.net.Genuine(p) {
		t.Error(p)
	}
}

func TestSwapInEveryPlace(t *testing.T) {
	for length := range 5 {
		for _, i := range places(length) {
			for _, k := range places(length) {
				w := letters(t, length)
				w.swap(i, k)
			}
		}
	}
}

func TestClear(t *testing.T) {
	w := paired(t, 3, 2)
	w.clear()
	w = letters(t, 4)
	w.inject(packet(-4, 1, "x"), api.OK)
	w.clear()
	w.clear()
	for _, k := range places(5) {
		w.take(k)
		w.drop(k)
		w.copy(k)
		w.turn(k, 0, 1)
		w.swap(k, k)
		w.swap(0, k)
	}
	if w.net.Len() != 0 || w.net.Sent() != 4 {
		t.Error(w.net.Len(), w.net.Sent())
	}
	w.send(packet(0, 1, "behind"), api.OK)
	w.copy(0)
	w.take(0)
}
