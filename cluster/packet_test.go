package cluster_test

import (
	"bytes"
	"math"
	"testing"

	"amnesia/api"
)

// Deliver, Drop, Copy, Spoil and Inject: what is done to the pool.

// letters: so many packets that differ in the pool, to a replica that is crashed.
func letters(t *testing.T, count int) *pair {
	t.Helper()
	w := paired(t, setupOf(three, 0), crash(2))
	for i := range count {
		w.do(inject(2, i%3, []byte("letter "+string(rune('a'+i)))))
	}
	return w
}

// Index is taken modulo the number of packets.
func TestIndex(t *testing.T) {
	for index, place := range map[int]int{0: 0, 1: 1, 4: 4, 5: 0, 6: 1, 14: 4, math.MaxInt: math.MaxInt % 5, math.MaxInt - 1: (math.MaxInt - 1) % 5} {
		for _, e := range []api.Event{deliver(index, 0), drop(index)} {
			w := letters(t, 5)
			before := w.u.Pool()
			w.expect(e) // the replica is crashed: nothing is seen of what comes to it
			if want := append(before[:place:place], before[place+1:]...); !samePool(w.u.Pool(), want) {
				t.Error(e, w.u.Pool(), want)
			}
		}
		w := letters(t, 5)
		before := w.u.Pool()
		w.expect(copyOf(index))
		if want := append(before, before[place]); !samePool(w.u.Pool(), want) {
			t.Error(index, w.u.Pool())
		}
		w = letters(t, 5)
		w.expect(spoilt(index, 3, 1))
		before[place].Bytes[3] ^= 1
		if !samePool(w.u.Pool(), before[:5]) {
			t.Error(index, w.u.Pool())
		}
	}
}

func TestIndexBelow0(t *testing.T) {
	for _, w := range []*pair{paired(t, setupOf(three, 0)), letters(t, 3)} {
		for _, index := range []int{-1, -2, -3, -4, math.MinInt, math.MinInt + 1} {
			w.refuse(deliver(index, 0), drop(index), copyOf(index), spoilt(index, 0, 1))
		}
		for _, cut := range []int{-1, -2, math.MinInt} {
			w.refuse(deliver(0, cut))
		}
	}
}

// With an empty pool nothing happens, and it is an event.
func TestEmptyPool(t *testing.T) {
	w := paired(t, setupOf(three, 0))
	for i, e := range []api.Event{deliver(0, 0), deliver(7, 1), deliver(math.MaxInt, math.MaxInt), drop(0), drop(9), copyOf(0), copyOf(9), spoilt(0, 0, 1), spoilt(3, 4, 255)} {
		w.expect(e)
		if w.u.Events() != i+1 || len(w.u.Pool()) != 0 {
			t.Fatal(w.u.Events(), w.u.Pool())
		}
	}
	w.refuse(spoilt(0, 0, 0), spoilt(0, -1, 1), deliver(0, -1)) // they may not be even so
}

func TestDropAndCopy(t *testing.T) {
	w := paired(t, setupOf(three, 0), submit(0, write(7, "a")))
	w.expect(copyOf(1))
	w.expect(drop(0))
	want := []api.Packet{request(t, three, 1, asked), request(t, three, 2, asked), request(t, three, 1, asked)}
	if !samePool(w.u.Pool(), want) {
		t.Fatal(w.u.Pool())
	}
	w.expect(spoilt(2, 9, 8)) // of one of two alike
	want[2].Bytes[9] ^= 8
	if !samePool(w.u.Pool(), want) {
		t.Fatal(w.u.Pool())
	}
}

// Count is exclusive-ored into one byte: At modulo the packet's length.
func TestSpoil(t *testing.T) {
	text := []byte("some bytes")
	for _, count := range []int{1, 2, 128, 254, 255} {
		for _, at := range []int{0, 1, 9, 10, 19, 25, math.MaxInt} {
			w := paired(t, setupOf(three, 0), inject(0, 1, text), inject(0, 1, text))
			w.expect(spoilt(1, at, count))
			want := bytes.Clone(text)
			want[at%10] ^= byte(count)
			if pool := w.u.Pool(); !bytes.Equal(pool[1].Bytes, want) || !bytes.Equal(pool[0].Bytes, text) {
				t.Error(at, count, pool)
			}
			w.do(spoilt(1, at, count)) // twice is nothing
			if pool := w.u.Pool(); !bytes.Equal(pool[1].Bytes, text) {
				t.Error(at, count, pool)
			}
		}
	}
	w := paired(t, setupOf(three, 0), inject(0, 1, text))
	for _, count := range []int{0, 256, 257, -1, -255, math.MinInt, math.MaxInt} {
		w.refuse(spoilt(0, 0, count))
	}
	for _, at := range []int{-1, -10, math.MinInt} {
		w.refuse(spoilt(0, at, 1))
	}
	empty := paired(t, setupOf(three, 0), inject(0, 1, nil))
	for _, at := range []int{0, 1, math.MaxInt} {
		empty.expect(spoilt(0, at, 255))
	}
	if pool := empty.u.Pool(); len(pool) != 1 || len(pool[0].Bytes) != 0 {
		t.Error(pool)
	}
}

func TestInject(t *testing.T) {
	for _, c := range configs() {
		for _, clients := range []int{0, 1, 16} {
			w := paired(t, setupOf(c, make([]int, clients)...))
			n := 2*c.F + 1
			for at := -3; at < 30; at++ {
				isAddress := at >= 0 && at < n || at >= 7 && at < 7+clients
				for node := range n {
					if !isAddress {
						w.refuse(inject(node, at, []byte("x")))
						continue
					}
					w.expect(inject(node, at, []byte("x")))
					pool := w.u.Pool()
					if !samePacket(pool[len(pool)-1], api.Packet{From: at, To: node, Bytes: []byte("x")}) {
						t.Fatal(pool)
					}
				}
			}
			for _, far := range append([]int{n, n + 1, 7, 8, 22}, farNumbers...) {
				if far >= n || far < 0 {
					w.refuse(inject(far, 0, []byte("x"))) // packets are made up for replicas alone
				}
			}
			for _, far := range farNumbers {
				w.refuse(inject(0, far, []byte("x")))
			}
		}
	}
}

func TestInjectedBytes(t *testing.T) {
	for _, text := range [][]byte{nil, {}, {0}, make([]byte, 32767), make([]byte, 32768)} {
		w := paired(t, setupOf(three, 0))
		before := w.state(1)
		w.expect(inject(1, 7, text))
		w.expect(deliver(0, 0), taken(api.Packet{From: 7, To: 1, Bytes: text}))
		if !sameState(w.state(1), before) {
			t.Error(w.state(1))
		}
	}
	w := paired(t, setupOf(three, 0))
	w.refuse(inject(1, 7, make([]byte, 32769)), inject(1, 7, make([]byte, 1<<20)))
}

// A made-up frame whose sum is right does what any other one does, whoever it says that it is from.
func TestInjectedMessage(t *testing.T) {
	w := paired(t, setupOf(three, 0))
	forged := request(t, three, 0, entry(0, 9, count))
	w.do(inject(0, 2, forged.Bytes))
	forged.From = 2
	w.expect(deliver(0, 0), taken(forged), sent(prepare(t, three, 1, 1, entry(0, 9, count))), sent(prepare(t, three, 2, 1, entry(0, 9, count))))
}

// To a replica that is crashed: the packet is gone, and nothing is seen, whatever the cut.
func TestDeliverToACrashedOne(t *testing.T) {
	for _, cut := range []int{0, 1, 2, 9} {
		w := paired(t, setupOf(three, 0), submit(0, count), crash(0))
		w.expect(deliver(0, cut))
		if len(w.u.Pool()) != 2 {
			t.Error(w.u.Pool())
		}
	}
}
