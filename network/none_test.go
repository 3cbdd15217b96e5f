package network_test

import (
	"testing"

	"amnesia/api"
	"amnesia/network"
)

// P14.6: a nil Net, and a zero one.

// oddPackets: some that may be sent in a net, and some that may not.
func oddPackets() []api.Packet {
	var l []api.Packet
	for _, a := range append([]int{0, 1, 7, 23}, farNumbers...) {
		for _, b := range append([]int{0, 1, 7, 23}, farNumbers...) {
			l = append(l, packet(a, b, "a"), packet(a, b, tooLong), api.Packet{From: a, To: b})
		}
	}
	return l
}

func TestNil(t *testing.T) {
	var n *network.Net
	for _, p := range oddPackets() {
		if n.Send(p) != api.OK || n.Inject(p) != api.OK || n.Genuine(p) {
			t.Fatal(p)
		}
	}
	for _, k := range append([]int{0, 1, 7}, farNumbers...) {
		for _, i := range append([]int{0, 1, 7}, farNumbers...) {
			if n.Turn(k, i, 1) != api.OK || n.Swap(k, i) != api.OK {
				t.Fatal(k, i)
			}
		}
		for _, at := range []func(int) (api.Packet, api.Errno){n.At, n.Take, n.Record} {
			if p, e := at(k); e != api.OK || !isZero(p) {
				t.Fatal(k, p, e)
			}
		}
		if n.Copy(k) != api.OK || n.Drop(k) != api.OK || len(n.For(k)) != 0 {
			t.Fatal(k)
		}
	}
	n.Clear()
	if n.Len() != 0 || n.Sent() != 0 {
		t.Fatal(n.Len(), n.Sent())
	}
	for k, p := range n.Each() {
		t.Fatal(k, p)
	}
	n.Each()(nil)
}

// What a zero one answers is free. That nothing panics is all that is asked.
func TestZero(t *testing.T) {
	n := &network.Net{}
	numbers := append([]int{0, 1, 7}, farNumbers...)
	for range 2 {
		for _, p := range oddPackets() {
			n.Send(p)
			n.Inject(p)
			n.Genuine(p)
		}
		for _, k := range numbers {
			for _, i := range numbers {
				n.Turn(k, i, 1)
				n.Swap(k, i)
			}
			n.At(k)
			n.Copy(k)
			n.For(k)
			n.Record(k)
			n.Take(k)
			n.Drop(k)
		}
		n.Len()
		n.Sent()
		for range n.Each() {
			n.Clear()
		}
		n.Each()(nil)
		n.Clear()
	}
}
