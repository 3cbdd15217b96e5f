package network_test

import (
	"testing"

	"amnesia/api"
)

// P14.5: Sent, Record, Genuine. (Record is looked at at each number and beyond behind each call of a pair.)

func TestRecordInOrder(t *testing.T) {
	w := paired(t, 3, 2)
	for i, p := range []api.Packet{packet(2, 7, "z"), packet(0, 1, "a"), packet(2, 7, "z"), packet(1, 1, "a"), packet(0, 1, "a"), packet(8, 0, "")} {
		w.send(p, api.OK)
		if want := []int{1, 2, 2, 3, 3, 4}[i]; w.net.Sent() != want {
			t.Fatal(i, w.net.Sent())
		}
	}
	for i, want := range []api.Packet{packet(2, 7, "z"), packet(0, 1, "a"), packet(1, 1, "a"), packet(8, 0, "")} {
		if p, e := w.net.Record(i); e != api.OK || !same(p, want) {
			t.Error(i, p, e)
		}
	}
	for _, i := range append([]int{4, 5}, farNumbers...) {
		if p, e := w.net.Record(i); e != api.ErrPacket || !isZero(p) {
			t.Error(i, p, e)
		}
	}
}

func TestGenuine(t *testing.T) {
	w := paired(t, 3, 2, packet(0, 1, "ab"), packet(2, 7, ""))
	for _, from := range append([]int{0, 1, 2, 3, 7, 23, 40}, farNumbers...) {
		if !w.net.Genuine(packet(from, 1, "ab")) || !w.net.Genuine(packet(from, 7, "")) {
			t.Error("another From:", from)
		}
	}
	for _, to := range append([]int{0, 2, 3, 7, 8, 9, 23}, farNumbers...) {
		if w.net.Genuine(packet(0, to, "ab")) {
			t.Error("another To:", to)
		}
	}
	for _, text := range []string{"", "a", "b", "aB", "ba", "abc", "ab\x00", "\x00ab", tooLong} {
		if w.net.Genuine(packet(0, 1, text)) {
			t.Errorf("other Bytes: %.9q", text)
		}
	}
}

// What was refused was not sent.
func TestRefusedIsNotGenuine(t *testing.T) {
	w := paired(t, 3, 2)
	w.send(packet(9, 1, "a"), api.ErrNode)
	w.send(packet(1, 9, "a"), api.ErrNode)
	w.send(packet(1, 1, tooLong), api.ErrLarge)
	if w.net.Genuine(packet(9, 1, "a")) || w.net.Genuine(packet(1, 9, "a")) || w.net.Genuine(packet(1, 1, tooLong)) || w.net.Sent() != 0 {
		t.Error(w.net.Sent())
	}
}

// What was sent stays in the record, whatever happens in the pool.
func TestRecordStays(t *testing.T) {
	for name, change := range changes() {
		w := letters(t, 5)
		was := copies(w.record)
		change(w)
		w.clear()
		w.inject(packet(0, 1, "never"), api.OK)
		for i, p := range was {
			if got, e := w.net.Record(i); e != api.OK || !same(got, p) || !w.net.Genuine(p) {
				t.Fatal(name, i, got, e)
			}
		}
		sent := w.net.Sent()
		for _, p := range was { // it has them already
			w.send(p, api.OK)
		}
		if w.net.Sent() != sent {
			t.Fatal(name, sent, w.net.Sent())
		}
	}
}

// A turned packet is genuine, if just that was sent to that address too.
func TestTurnedIntoAnother(t *testing.T) {
	w := paired(t, 3, 2, packet(0, 1, "a"), packet(2, 1, "b"), packet(0, 2, "c"))
	for mask, want := range []bool{true, false, false, true} { // a, `, c, b
		w.turn(0, 0, byte(mask))
		if p, _ := w.net.At(0); w.net.Genuine(p) != want {
			t.Error(mask, p)
		}
		w.turn(0, 0, byte(mask))
	}
}
