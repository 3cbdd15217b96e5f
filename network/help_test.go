package network_test

import (
	"bytes"
	"iter"
	"math"
	"math/rand/v2"
	"slices"
	"testing"

	"amnesia/api"
	"amnesia/network"
)

func packet(from, to int, text string) api.Packet {
	return api.Packet{From: from, To: to, Bytes: []byte(text)}
}

func own(p api.Packet) api.Packet {
	return packet(p.From, p.To, string(p.Bytes))
}

func same(a, b api.Packet) bool {
	return a.From == b.From && a.To == b.To && bytes.Equal(a.Bytes, b.Bytes)
}

func isZero(p api.Packet) bool { return same(p, api.Packet{}) }

func made(t *testing.T, nodes, clients int) *network.Net {
	t.Helper()
	n, e := network.New(nodes, clients)
	if e != api.OK || n == nil {
		t.Fatalf("New(%d, %d): %v, %d", nodes, clients, n, e)
	}
	return n
}

// addresses: the chapter's, one by one.
func addresses(nodes, clients int) []int {
	var l []int
	for i := range nodes {
		l = append(l, i)
	}
	for c := range clients {
		l = append(l, 7+c)
	}
	return l
}

// farNumbers are no place, no byte and no address of anything.
var farNumbers = []int{math.MinInt, math.MinInt + 1, -1 << 32, -2, -1, 1 << 32, 1<<32 + 1, math.MaxInt - 1, math.MaxInt}

// pair is a net, and beside it plain lists of what it must have. Each call is made to both; what is answered, and all that can be seen behind it, must be the same.
type pair struct {
	t              *testing.T
	net            *network.Net
	nodes, clients int
	pool, record   []api.Packet
}

func paired(t *testing.T, nodes, clients int, sent ...api.Packet) *pair {
	t.Helper()
	w := &pair{t: t, net: made(t, nodes, clients), nodes: nodes, clients: clients}
	w.look()
	for _, p := range sent {
		w.send(p, api.OK)
	}
	return w
}

// letters: so many packets that differ, in a net with the addresses 0, 1, 2, 7 and 8.
func letters(t *testing.T, count int) *pair {
	t.Helper()
	w := paired(t, 3, 2)
	for i := range count {
		w.send(packet(i%3, 7+i%2, "letter "+string(rune('a'+i))), api.OK)
	}
	return w
}

func (w *pair) expect(what string, got, want api.Errno) {
	w.t.Helper()
	if got != want {
		w.t.Fatalf("%s: %d, want %d", what, got, want)
	}
	w.look()
}

func (w *pair) send(p api.Packet, want api.Errno) {
	w.t.Helper()
	if want == api.OK {
		w.pool = append(w.pool, own(p))
		if !slices.ContainsFunc(w.record, func(r api.Packet) bool { return same(p, r) }) {
			w.record = append(w.record, own(p))
		}
	}
	w.expect("Send", w.net.Send(p), want)
}

func (w *pair) inject(p api.Packet, want api.Errno) {
	w.t.Helper()
	if want == api.OK {
		w.pool = append(w.pool, own(p))
	}
	w.expect("Inject", w.net.Inject(p), want)
}

func (w *pair) has(k int) bool { return k >= 0 && k < len(w.pool) }

// placeError: what a call answers of a place.
func (w *pair) placeError(places ...int) api.Errno {
	for _, k := range places {
		if !w.has(k) {
			return api.ErrPacket
		}
	}
	return api.OK
}

func (w *pair) without(k int) []api.Packet {
	var rest []api.Packet
	for i, p := range w.pool {
		if i != k {
			rest = append(rest, p)
		}
	}
	return rest
}

func (w *pair) take(k int) api.Packet {
	w.t.Helper()
	var want api.Packet
	e := w.placeError(k)
	if e == api.OK {
		want, w.pool = w.pool[k], w.without(k)
	}
	p, got := w.net.Take(k)
	if !same(p, want) {
		w.t.Fatalf("Take(%d): %v, want %v", k, p, want)
	}
	w.expect("Take", got, e)
	return p
}

func (w *pair) drop(k int) {
	w.t.Helper()
	e := w.placeError(k)
	if e == api.OK {
		w.pool = w.without(k)
	}
	w.expect("Drop", w.net.Drop(k), e)
}

func (w *pair) copy(k int) {
	w.t.Helper()
	e := w.placeError(k)
	if e == api.OK {
		w.pool = append(w.pool, own(w.pool[k]))
	}
	w.expect("Copy", w.net.Copy(k), e)
}

func (w *pair) turn(k, at int, mask byte) {
	w.t.Helper()
	e := w.placeError(k)
	if e == api.OK && (at < 0 || at >= len(w.pool[k].Bytes)) {
		e = api.ErrByte
	}
	if e == api.OK {
		w.pool[k].Bytes[at] ^= mask
	}
	w.expect("Turn", w.net.Turn(k, at, mask), e)
}

func (w *pair) swap(i, k int) {
	w.t.Helper()
	e := w.placeError(i, k)
	if e == api.OK {
		w.pool[i], w.pool[k] = w.pool[k], w.pool[i]
	}
	w.expect("Swap", w.net.Swap(i, k), e)
}

func (w *pair) clear() {
	w.t.Helper()
	w.pool = nil
	w.net.Clear()
	w.look()
}

// genuine: has the record a packet with its To and its Bytes?
func (w *pair) genuine(p api.Packet) bool {
	return slices.ContainsFunc(w.record, func(r api.Packet) bool { return r.To == p.To && bytes.Equal(r.Bytes, p.Bytes) })
}

// look: all that can be seen of the net is what the lists have.
func (w *pair) look() {
	w.t.Helper()
	expectList(w.t, "At", w.net.Len(), w.net.At, w.pool)
	expectList(w.t, "Record", w.net.Sent(), w.net.Record, w.record)
	expectEach(w.t, "Each", w.net.Each(), w.pool)
	w.lookFor()
	for _, p := range slices.Concat(w.pool, w.record) {
		w.lookGenuine(p)
		w.lookGenuine(packet(p.From+1, p.To, string(p.Bytes)))
		w.lookGenuine(packet(p.From, p.To+1, string(p.Bytes)))
		w.lookGenuine(packet(p.From, p.To, string(p.Bytes)+"!"))
	}
}

func expectList(t *testing.T, what string, length int, at func(int) (api.Packet, api.Errno), want []api.Packet) {
	t.Helper()
	if length != len(want) {
		t.Fatalf("%s: %d packets, want %d: %v", what, length, len(want), want)
	}
	for k, p := range want {
		if got, e := at(k); e != api.OK || !same(got, p) {
			t.Fatalf("%s(%d): %v, %d, want %v", what, k, got, e, p)
		}
	}
	for _, k := range append([]int{len(want), len(want) + 1}, farNumbers...) {
		if got, e := at(k); e != api.ErrPacket || !isZero(got) {
			t.Fatalf("%s(%d) of %d: %v, %d", what, k, len(want), got, e)
		}
	}
}

func expectEach(t *testing.T, what string, each iter.Seq2[int, api.Packet], want []api.Packet) {
	t.Helper()
	next := 0
	for k, p := range each {
		if k != next || k >= len(want) || !same(p, want[k]) {
			t.Fatalf("%s: %d, %v where place %d of %v is next", what, k, p, next, want)
		}
		next++
	}
	if next != len(want) {
		t.Fatalf("%s: ended ahead of place %d of %v", what, next, want)
	}
}

func (w *pair) lookFor() {
	w.t.Helper()
	numbers := slices.Clone(farNumbers)
	for a := range 40 {
		numbers = append(numbers, a)
	}
	for _, a := range numbers {
		var want []int
		for k, p := range w.pool {
			if p.To == a {
				want = append(want, k)
			}
		}
		if got := w.net.For(a); !slices.Equal(got, want) {
			w.t.Fatalf("For(%d): %v, want %v", a, got, want)
		}
	}
}

func (w *pair) lookGenuine(p api.Packet) {
	w.t.Helper()
	if got := w.net.Genuine(p); got != w.genuine(p) {
		w.t.Fatalf("Genuine(%v): %v; the record: %v", p, got, w.record)
	}
}

// copies: the lists as they are now.
func copies(l []api.Packet) []api.Packet {
	var c []api.Packet
	for _, p := range l {
		c = append(c, own(p))
	}
	return c
}

func seeded(seed uint64) *rand.Rand { return rand.New(rand.NewPCG(seed, 14)) }
