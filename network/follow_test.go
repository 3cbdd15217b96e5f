package network_test

import (
	"slices"
	"testing"

	"amnesia/api"
)

// P14.7: nothing comes from nowhere.

// step makes one call, out of any; with plain it is neither Inject nor a Turn with a mask but 0.
func step(w *pair, pick func(int) int, plain bool) {
	w.t.Helper()
	around := func() int { return pick(len(w.pool)+3) - 1 } // a place, or one that is none
	addressed := addresses(w.nodes, w.clients)
	text := []string{"", "a", "b", "ab", "abc", "longer than that"}[pick(6)]
	p := packet(addressed[pick(len(addressed))], addressed[pick(len(addressed))], text)
	switch pick(12) {
	case 0, 1, 2:
		w.send(p, api.OK)
	case 3:
		p.From = w.nodes
		if w.nodes == 7 {
			p.From = 7 + w.clients
		}
		w.send(p, api.ErrNode)
	case 4:
		if !plain {
			p.From = pick(60) - 30
			w.inject(p, api.OK)
		}
	case 5:
		w.take(around())
	case 6:
		w.drop(around())
	case 7:
		w.copy(around())
	case 8, 9:
		mask := byte(pick(256))
		if plain {
			mask = 0
		}
		w.turn(around(), pick(6)-1, mask)
	case 10:
		w.swap(around(), around())
	case 11:
		if pick(8) == 0 {
			w.clear()
		}
	}
}

func TestNothingFromNowhere(t *testing.T) {
	for seed := range uint64(60) {
		random := seeded(seed)
		w := paired(t, 1+random.IntN(7), random.IntN(17))
		var sent []api.Packet
		for range 60 {
			step(w, random.IntN, true)
			sent = append(sent, w.pool...)
			for k, p := range w.net.Each() {
				if !w.net.Genuine(p) {
					t.Fatalf("seed %d: place %d, %v", seed, k, p)
				}
			}
			for _, p := range sent {
				if !w.net.Genuine(p) {
					t.Fatalf("seed %d: %v was sent", seed, p)
				}
			}
		}
		for w.net.Len() > 0 {
			if p, e := w.net.Take(random.IntN(w.net.Len())); e != api.OK || !w.net.Genuine(p) {
				t.Fatalf("seed %d: %v, %d", seed, p, e)
			}
		}
	}
}

// Behind Send p is genuine for ever, whatever is called.
func TestSentForEver(t *testing.T) {
	for seed := range uint64(60) {
		random := seeded(seed)
		w := paired(t, 3, 2)
		p := packet(random.IntN(3), 7+random.IntN(2), "here it is")
		if w.net.Genuine(p) {
			t.Fatal("ahead of Send")
		}
		w.send(p, api.OK)
		for range 60 {
			step(w, random.IntN, false)
			if !w.net.Genuine(p) {
				t.Fatalf("seed %d", seed)
			}
		}
	}
}

// P14.8: the pool is a heap of packets.

func TestCounts(t *testing.T) {
	w := letters(t, 4)
	for _, x := range []struct {
		call func()
		by   int
	}{
		{func() { w.send(w.pool[0], api.OK) }, 1},
		{func() { w.inject(packet(-1, 0, "i"), api.OK) }, 1},
		{func() { w.copy(2) }, 1},
		{func() { w.turn(2, 1, 9) }, 0},
		{func() { w.swap(0, 3) }, 0},
		{func() { w.take(1) }, -1},
		{func() { w.drop(1) }, -1},
		{func() { w.send(packet(9, 0, ""), api.ErrNode) }, 0},
		{func() { w.take(99) }, 0},
		{func() { w.drop(99) }, 0},
		{func() { w.copy(99) }, 0},
	} {
		was := w.net.Len()
		if x.call(); w.net.Len() != was+x.by {
			t.Fatal(was, w.net.Len(), x.by)
		}
	}
}

func TestTwiceIsNothing(t *testing.T) {
	w := letters(t, 5)
	was := copies(w.pool)
	for i := range 5 {
		for k := range 5 {
			w.swap(i, k)
			w.swap(i, k)
			expectEach(t, "Swap twice", w.net.Each(), was)
			w.swap(i, k)
			w.swap(k, i)
			expectEach(t, "Swap, and the other way round", w.net.Each(), was)
		}
		for at := range 8 {
			w.turn(i, at, byte(7*at+i))
			w.turn(i, at, byte(7*at+i))
			expectEach(t, "Turn twice", w.net.Each(), was)
		}
		w.copy(i)
		w.drop(5)
		expectEach(t, "Copy and Drop", w.net.Each(), was)
	}
}

// By Swap and Take the packets can be taken in any order.
func TestAnyOrder(t *testing.T) {
	var orders func(left []int) [][]int
	orders = func(left []int) [][]int {
		if len(left) == 0 {
			return [][]int{nil}
		}
		var all [][]int
		for i, first := range left {
			for _, rest := range orders(slices.Delete(slices.Clone(left), i, i+1)) {
				all = append(all, append([]int{first}, rest...))
			}
		}
		return all
	}
	for _, order := range orders([]int{0, 1, 2, 3}) {
		w := letters(t, 4)
		was := copies(w.pool)
		for _, next := range order {
			k := slices.IndexFunc(w.pool, func(p api.Packet) bool { return same(p, was[next]) })
			w.swap(0, k)
			if p := w.take(0); !same(p, was[next]) {
				t.Fatal(order, p)
			}
		}
		if w.net.Len() != 0 {
			t.Fatal(order, w.net.Len())
		}
	}
}

// P14.9: At, Each and For go together.

func TestTogether(t *testing.T) {
	for seed := range uint64(60) {
		random := seeded(seed)
		w := paired(t, 1+random.IntN(7), random.IntN(17))
		for range 40 {
			step(w, random.IntN, false)
		}
		for k, p := range w.net.Each() {
			if q, e := w.net.At(k); e != api.OK || !same(p, q) {
				t.Fatal(seed, k, p, q, e)
			}
		}
		var all []int
		for _, to := range addresses(w.nodes, w.clients) {
			for _, k := range w.net.For(to) {
				if p, e := w.net.At(k); e != api.OK || p.To != to {
					t.Fatal(seed, to, k, p, e)
				}
				all = append(all, k)
			}
		}
		slices.Sort(all)
		for k := range w.net.Len() {
			if k >= len(all) || all[k] != k {
				t.Fatalf("seed %d: For has the places %v of %d", seed, all, w.net.Len())
			}
		}
		if len(all) != w.net.Len() {
			t.Fatal(seed, all)
		}
	}
}
