package network_test

import (
	"math"
	"slices"
	"strings"
	"testing"

	"amnesia/api"
	"amnesia/network"
)

// P14.1: New.

func TestNew(t *testing.T) {
	numbers := append([]int{0, 1, 2, 6, 7, 8, 15, 16, 17, 1 << 20}, farNumbers...)
	for _, nodes := range numbers {
		for _, clients := range numbers {
			n, e := network.New(nodes, clients)
			if nodes < 1 || nodes > 7 || clients < 0 || clients > 16 {
				if n != nil || e != api.ErrArg {
					t.Errorf("New(%d, %d): %v, %d", nodes, clients, n, e)
				}
				continue
			}
			if n == nil || e != api.OK {
				t.Fatalf("New(%d, %d): %v, %d", nodes, clients, n, e)
			}
			(&pair{t: t, net: n, nodes: nodes, clients: clients}).look()
		}
	}
}

// P14.2: Send and Inject.

// Every address of every net, and every number that is none there: between the replicas and the clients, behind the last client, below 0.
func TestAddresses(t *testing.T) {
	for nodes := 1; nodes <= 7; nodes++ {
		for clients := range 17 {
			n := made(t, nodes, clients)
			all := addresses(nodes, clients)
			numbers := slices.Clone(farNumbers)
			for a := -3; a < 30; a++ {
				numbers = append(numbers, a)
			}
			for _, a := range numbers {
				want := api.ErrNode
				if slices.Contains(all, a) {
					want = api.OK
				}
				if e := n.Send(packet(a, 0, "x")); e != want {
					t.Errorf("New(%d, %d): Send from %d: %d", nodes, clients, a, e)
				}
				if e := n.Send(packet(0, a, "x")); e != want {
					t.Errorf("New(%d, %d): Send to %d: %d", nodes, clients, a, e)
				}
				if e := n.Inject(packet(0, a, "x")); e != want {
					t.Errorf("New(%d, %d): Inject to %d: %d", nodes, clients, a, e)
				}
				if e := n.Inject(packet(a, 0, "x")); e != api.OK {
					t.Errorf("New(%d, %d): Inject from %d: %d", nodes, clients, a, e)
				}
			}
			if n.Len() != 3*len(all)+len(numbers) {
				t.Errorf("New(%d, %d): %d packets", nodes, clients, n.Len())
			}
		}
	}
}

// All from all to all, which are unlike packets each.
func TestEverySender(t *testing.T) {
	n := made(t, 7, 16)
	all := addresses(7, 16)
	for range 2 {
		for _, from := range all {
			for _, to := range all {
				if e := n.Send(packet(from, to, "x")); e != api.OK {
					t.Fatal(from, to, e)
				}
			}
		}
	}
	if n.Len() != 2*len(all)*len(all) || n.Sent() != len(all)*len(all) {
		t.Fatal(n.Len(), n.Sent())
	}
	for i := range n.Sent() {
		if p, e := n.Record(i); e != api.OK || !same(p, packet(all[i/len(all)], all[i%len(all)], "x")) {
			t.Fatal(i, p, e)
		}
	}
}

const frame = api.MaxFrame

var (
	longest = strings.Repeat("l", frame)
	tooLong = strings.Repeat("l", frame+1)
)

func TestLength(t *testing.T) {
	w := paired(t, 3, 2, packet(0, 1, "a"))
	w.send(packet(0, 1, tooLong), api.ErrLarge)
	w.inject(packet(0, 1, tooLong), api.ErrLarge)
	w.inject(packet(-1, 8, tooLong+tooLong), api.ErrLarge)
	w.send(packet(0, 1, longest), api.OK)
	w.inject(packet(-9, 7, longest), api.OK)
	w.turn(1, frame-1, 255)
	w.turn(1, frame, 255)
	w.take(1)
}

// An address is asked for ahead of the length.
func TestErrorsInOrder(t *testing.T) {
	w := paired(t, 3, 2, packet(0, 1, "a"))
	for _, none := range append([]int{3, 6, 9, 23}, farNumbers...) {
		for _, text := range []string{"", "a", tooLong} {
			w.send(packet(none, none, text), api.ErrNode)
			w.send(packet(none, 1, text), api.ErrNode)
			w.send(packet(1, none, text), api.ErrNode)
			w.inject(packet(none, none, text), api.ErrNode)
			w.inject(packet(1, none, text), api.ErrNode)
		}
		w.inject(packet(none, 1, tooLong), api.ErrLarge)
	}
}

// The record has a packet once; one that differs in From, To or Bytes alone is another one.
func TestSendAgain(t *testing.T) {
	w := paired(t, 3, 2)
	unlike := []api.Packet{packet(0, 1, "ab"), packet(2, 1, "ab"), packet(7, 1, "ab"), packet(0, 2, "ab"), packet(0, 8, "ab"), packet(0, 1, "aB"), packet(0, 1, "a"), packet(0, 1, "abc"), packet(0, 1, "ab\x00"), packet(0, 1, ""), packet(1, 0, "ab")}
	for i, p := range unlike {
		w.send(p, api.OK)
		w.send(p, api.OK)
		if w.net.Sent() != i+1 || w.net.Len() != 2*i+2 {
			t.Fatal(p, w.net.Sent(), w.net.Len())
		}
	}
	for _, p := range slices.Backward(unlike) {
		w.send(p, api.OK)
	}
	if w.net.Sent() != len(unlike) || w.net.Len() != 3*len(unlike) {
		t.Fatal(w.net.Sent(), w.net.Len())
	}
}

func TestNoBytes(t *testing.T) {
	w := paired(t, 1, 1)
	w.send(api.Packet{From: 0, To: 7}, api.OK)
	w.send(api.Packet{From: 0, To: 7, Bytes: []byte{}}, api.OK)
	w.send(api.Packet{From: 0, To: 7, Bytes: []byte("spare")[:0]}, api.OK)
	if w.net.Len() != 3 || w.net.Sent() != 1 {
		t.Error(w.net.Len(), w.net.Sent())
	}
	if !w.net.Genuine(api.Packet{To: 7}) || !w.net.Genuine(api.Packet{To: 7, Bytes: []byte{}}) || w.net.Genuine(api.Packet{}) {
		t.Error("Genuine")
	}
	w.inject(api.Packet{From: 5, To: 0}, api.OK)
	w.inject(api.Packet{From: 5, To: 0, Bytes: []byte{}}, api.OK)
	if w.net.Genuine(api.Packet{}) {
		t.Error("nobody has sent it there")
	}
	w.turn(0, 0, 1)
	w.turn(1, -1, 1)
	w.take(0)
}

// Whoever it says that it is from; the record stays as it is, even if it has the same packet.
func TestInject(t *testing.T) {
	w := paired(t, 3, 2, packet(0, 1, "a"))
	for _, from := range append([]int{0, 1, 2, 3, 6, 7, 8, 9, 23, 64}, farNumbers...) {
		w.inject(packet(from, 1, "a"), api.OK)
		w.inject(packet(from, 8, "a"), api.OK)
		w.inject(packet(from, 1, "b"), api.OK)
	}
	if w.net.Sent() != 1 || w.net.Genuine(packet(0, 8, "a")) || w.net.Genuine(packet(0, 1, "b")) {
		t.Error(w.net.Sent())
	}
	w.send(packet(0, 8, "a"), api.OK) // now it was sent
	w.send(packet(2, 1, "a"), api.OK)
	if w.net.Sent() != 3 || !w.net.Genuine(packet(math.MinInt, 8, "a")) {
		t.Error(w.net.Sent())
	}
}
