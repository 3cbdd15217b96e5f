package network_test

import (
	"bytes"
	"reflect"
	"testing"

	"amnesia/api"
	"amnesia/network"
)

// P2 of DOC.md: whose memory packets are.

// roomy: the packet with something in the room behind its bytes.
func roomy(p api.Packet) api.Packet {
	p.Bytes = append(append(make([]byte, 0, len(p.Bytes)+5), p.Bytes...), "behind"[:5]...)[:len(p.Bytes)]
	return p
}

// spoil writes over all that a packet has, its spare room too.
func spoil(p api.Packet) {
	whole := p.Bytes[:cap(p.Bytes)]
	for i := range whole {
		whole[i] = '#'
	}
}

func spoilPlaces(l []int) {
	whole := l[:cap(l)]
	for i := range whole {
		whole[i] = -99
	}
}

// expectApart: no two of these lie over one another, nor does the room behind them.
func expectApart(t *testing.T, l []api.Packet) {
	t.Helper()
	from := func(p api.Packet) uintptr { return reflect.ValueOf(p.Bytes).Pointer() }
	for i, a := range l {
		for _, b := range l[:i] {
			if cap(a.Bytes) > 0 && cap(b.Bytes) > 0 && from(a) < from(b)+uintptr(cap(b.Bytes)) && from(b) < from(a)+uintptr(cap(a.Bytes)) {
				t.Fatalf("%v lies over %v", a, b)
			}
		}
	}
}

// answers: every packet that a net tells, in all ways but Take.
func answers(n *network.Net) []api.Packet {
	var l []api.Packet
	for range 2 {
		for k := range n.Len() {
			p, _ := n.At(k)
			l = append(l, p)
		}
		for i := range n.Sent() {
			p, _ := n.Record(i)
			l = append(l, p)
		}
		each := n.Each()
		for range 2 {
			for _, p := range each {
				l = append(l, p)
			}
		}
	}
	return l
}

// What is handed in stays as it is, with what lies behind it, and is not kept.
func TestGivenStays(t *testing.T) {
	w := paired(t, 3, 2)
	for _, text := range []string{"", "a", "some text", longest} {
		for _, call := range []func(api.Packet, api.Errno){w.send, w.send, w.inject} {
			p := roomy(packet(0, 1, text))
			call(p, api.OK)
			w.net.Genuine(p)
			w.turn(len(w.pool)-1, 0, 1)
			if string(p.Bytes) != text || string(p.Bytes[:cap(p.Bytes)][len(text):]) != "behin" {
				t.Fatalf("changed: %.20q", p.Bytes[:cap(p.Bytes)])
			}
			expectApart(t, append(answers(w.net), p))
			spoil(p)
			w.look()
		}
	}
}

// What is refused is not changed either.
func TestRefusedStays(t *testing.T) {
	w := paired(t, 3, 2)
	for _, p := range []api.Packet{packet(9, 1, "a"), packet(1, 9, "a"), packet(1, 1, tooLong)} {
		p = roomy(p)
		was := bytes.Clone(p.Bytes[:cap(p.Bytes)])
		w.net.Send(p)
		w.net.Inject(p)
		if !bytes.Equal(was, p.Bytes[:cap(p.Bytes)]) {
			t.Error(p.From, p.To)
		}
	}
}

// What is answered may be written over: no answer lies over another one, nor over what the net keeps.
func TestAnswersAreNew(t *testing.T) {
	w := letters(t, 4)
	w.copy(1)
	w.copy(1)
	w.send(w.pool[0], api.OK)
	w.inject(packet(-4, 1, "injected"), api.OK)
	w.turn(3, 2, 8)
	l := answers(w.net)
	expectApart(t, l)
	for _, p := range l {
		spoil(p)
		w.look()
	}
	for w.net.Len() > 0 {
		p := w.take(w.net.Len() / 2)
		expectApart(t, append(answers(w.net), p))
		spoil(p)
		w.look()
	}
}

// A longer list that is made of an answer leaves all else alone.
func TestAnswersGrow(t *testing.T) {
	w := letters(t, 3)
	w.copy(0)
	for _, p := range answers(w.net) {
		_ = append(p.Bytes, "and so on and on and on"...)
		w.look()
	}
}

func TestPlacesAreNew(t *testing.T) {
	w := letters(t, 9)
	a, b := w.net.For(7), w.net.For(7)
	spoilPlaces(a)
	if len(b) != 5 || b[0] != 0 || b[4] != 8 {
		t.Error(b)
	}
	spoilPlaces(b)
	w.look()
	spoilPlaces(w.net.For(3))
	w.look()
}

// What an Each tells may be written over while it is gone over; the next time it tells the same.
func TestEachAnswersAreNew(t *testing.T) {
	w := letters(t, 5)
	w.copy(2)
	was, each := copies(w.pool), w.net.Each()
	for range 3 {
		var told []api.Packet
		for k, p := range each {
			if !same(p, was[k]) {
				t.Fatal(k, p)
			}
			for _, q := range each {
				spoil(q)
			}
			if !same(p, was[k]) {
				t.Fatal(k, p)
			}
			told = append(told, p)
		}
		expectApart(t, told)
		for _, p := range told {
			spoil(p)
		}
	}
	w.look()
}

// Of one of two nets all that it is given and all that it answers is written over, call by call: both have the same all along.
func TestTwins(t *testing.T) {
	for seed := range uint64(40) {
		random, again := seeded(seed), seeded(seed)
		a, b := paired(t, 3, 2), paired(t, 3, 2)
		for range 50 {
			step(a, random.IntN, false)
			step(b, again.IntN, false)
			for _, p := range answers(b.net) {
				spoil(p)
			}
			for _, to := range addresses(3, 2) {
				spoilPlaces(b.net.For(to))
			}
			p := roomy(packet(random.IntN(3), 7, "both"))
			a.send(p, api.OK)
			again.IntN(3)
			b.send(p, api.OK)
			spoil(p)
			expectEach(t, "twins", b.net.Each(), a.pool)
			spoil(b.take(0))
			a.take(0)
			expectList(t, "twins", b.net.Sent(), b.net.Record, a.record)
		}
	}
}
