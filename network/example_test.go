package network_test

import (
	"slices"
	"testing"

	"amnesia/api"
	"amnesia/network"
)

// The chapter's examples 1 to 5, written out.

func TestExample1(t *testing.T) {
	n := made(t, 3, 2)
	for a := -3; a < 30; a++ {
		want := api.ErrNode
		if a == 0 || a == 1 || a == 2 || a == 7 || a == 8 {
			want = api.OK
		}
		if e := n.Send(packet(a, 1, "x")); e != want {
			t.Errorf("from %d: %d", a, e)
		}
		if e := n.Send(packet(1, a, "x")); e != want {
			t.Errorf("to %d: %d", a, e)
		}
	}
	if e := n.Send(packet(0, 1, "a")); e != api.OK {
		t.Error(e)
	}
	if e := n.Send(packet(0, 3, "")); e != api.ErrNode {
		t.Error(e)
	}
	if e := n.Send(packet(0, 9, "")); e != api.ErrNode {
		t.Error(e)
	}
	for _, x := range [][2]int{{8, 0}, {3, 17}, {0, 1}} {
		if n, e := network.New(x[0], x[1]); n != nil || e != api.ErrArg {
			t.Error(x, n, e)
		}
	}
}

func example2(t *testing.T) *network.Net {
	t.Helper()
	n := made(t, 3, 2)
	for _, p := range []api.Packet{packet(0, 1, "a"), packet(0, 2, "b"), packet(0, 1, "a")} {
		if e := n.Send(p); e != api.OK {
			t.Fatal(e)
		}
	}
	return n
}

func TestExample2(t *testing.T) {
	n := example2(t)
	if n.Len() != 3 || n.Sent() != 2 || !slices.Equal(n.For(1), []int{0, 2}) {
		t.Error(n.Len(), n.Sent(), n.For(1))
	}
	if p, e := n.Take(0); e != api.OK || !same(p, packet(0, 1, "a")) {
		t.Error(p, e)
	}
	if l := n.For(1); !slices.Equal(l, []int{1}) {
		t.Error(l)
	}
	if p, e := n.Take(2); e != api.ErrPacket || !isZero(p) {
		t.Error(p, e)
	}
}

// example3: place 0 has {0, 2, "c"}, which was "b" when it was sent.
func example3(t *testing.T) *network.Net {
	t.Helper()
	n := example2(t)
	if _, e := n.Take(0); e != api.OK {
		t.Fatal(e)
	}
	if e := n.Turn(0, 0, 1); e != api.OK {
		t.Fatal(e)
	}
	return n
}

func TestExample3(t *testing.T) {
	n := example3(t)
	if p, e := n.At(0); e != api.OK || !same(p, packet(0, 2, "c")) {
		t.Error(p, e)
	}
	if n.Genuine(packet(0, 2, "c")) || !n.Genuine(packet(5, 2, "b")) {
		t.Error("Genuine")
	}
	if e := n.Turn(0, 1, 1); e != api.ErrByte {
		t.Error(e)
	}
}

func TestExample4(t *testing.T) {
	n := example3(t)
	if e := n.Inject(packet(-4, 1, "x")); e != api.OK {
		t.Error(e)
	}
	if n.Genuine(packet(-4, 1, "x")) || n.Sent() != 2 || n.Len() != 3 {
		t.Error(n.Sent(), n.Len())
	}
}

func TestExample5(t *testing.T) {
	n := example3(t)
	if e := n.Copy(0); e != api.OK {
		t.Error(e)
	}
	if p, e := n.At(2); e != api.OK || !same(p, packet(0, 2, "c")) {
		t.Error(p, e)
	}
	if e := n.Turn(2, 0, 2); e != api.OK {
		t.Error(e)
	}
	if p, e := n.At(2); e != api.OK || !same(p, packet(0, 2, "a")) {
		t.Error(p, e)
	}
	if p, e := n.At(0); e != api.OK || !same(p, packet(0, 2, "c")) {
		t.Error(p, e)
	}
	if n.Swap(0, 1) != api.OK || n.Swap(0, 9) != api.ErrPacket {
		t.Error("Swap")
	}
	if p, e := n.At(1); e != api.OK || !same(p, packet(0, 2, "c")) {
		t.Error(p, e)
	}
}
