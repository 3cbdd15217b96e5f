package network_test

import (
	"iter"
	"sync"
	"testing"

	"amnesia/api"
)

// Runs of any calls, held against plain lists.

// view is what an Each that was asked for earlier must tell.
type view struct {
	each iter.Seq2[int, api.Packet]
	was  []api.Packet
}

func TestRuns(t *testing.T) {
	for seed := range uint64(150) {
		random := seeded(seed)
		w := paired(t, 1+random.IntN(7), random.IntN(17))
		var views []view
		for range 80 {
			if random.IntN(4) == 0 {
				views = append(views, view{w.net.Each(), copies(w.pool)})
			}
			step(w, random.IntN, false)
		}
		for _, v := range views {
			expectEach(t, "a view from earlier", v.each, v.was)
		}
	}
}

// A long one: a pool that grows to some hundreds and is taken down again.
func TestLongRun(t *testing.T) {
	n := made(t, 7, 16)
	for i := range 600 {
		p := packet(i%7, 7+i%16, string(rune('a'+i%26)))
		if e := n.Send(p); e != api.OK {
			t.Fatal(i, e)
		}
	}
	if n.Len() != 600 || n.Sent() != 600 {
		t.Fatal(n.Len(), n.Sent())
	}
	for i := range 600 {
		p, e := n.Take(0)
		if e != api.OK || !same(p, packet(i%7, 7+i%16, string(rune('a'+i%26)))) || !n.Genuine(p) {
			t.Fatal(i, p, e)
		}
	}
}

// Two nets share nothing: what is done to one is not seen at the other.
func TestTwoNets(t *testing.T) {
	for seed := range uint64(40) {
		random := seeded(seed)
		a, b := paired(t, 3, 2), paired(t, 3, 2)
		for range 50 {
			if random.IntN(2) == 0 {
				step(a, random.IntN, false)
			} else {
				step(b, random.IntN, false)
			}
			a.look()
			b.look()
		}
	}
	a, b := paired(t, 3, 2), paired(t, 3, 2)
	a.send(packet(0, 1, "a's"), api.OK)
	if b.net.Genuine(packet(0, 1, "a's")) || b.net.Sent() != 0 || b.net.Len() != 0 {
		t.Error("the other one has it")
	}
}

// Two nets in goroutines of their own: under the race detector nothing that they share is written.
func TestTwoNetsAtOnce(t *testing.T) {
	var both sync.WaitGroup
	for seed := range uint64(2) {
		w := paired(t, 3, 2)
		random := seeded(seed)
		both.Go(func() {
			for range 200 {
				n := w.net
				n.Send(packet(random.IntN(3), 7, "x"))
				n.Copy(0)
				n.Turn(0, 0, 1)
				n.Swap(0, n.Len()-1)
				n.Take(0)
				for _, p := range n.Each() {
					n.Genuine(p)
				}
			}
		})
	}
	both.Wait()
}
