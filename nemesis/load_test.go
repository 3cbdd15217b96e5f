package nemesis_test

import (
	"fmt"
	"math"
	"slices"
	"strings"
	"testing"

	"amnesia/api"
)

// load: what clients do.

// With the words of some seeds, worked out by hand.
func TestLoad(t *testing.T) {
	for seed, want := range map[uint64][]api.Event{
		0:              {submit(1, write(7, "e")), submit(1, write(1, "e")), submit(1, write(1, "g")), submit(1, write(1, "d")), submit(1, add("e")), query(0, 0, read(2)), submit(0, write(3, "a")), submit(0, read(2))},
		1:              {query(1, 0, read(3)), submit(1, read(5)), submit(1, write(6, "b")), query(0, 1, read(0)), submit(1, write(1, "g")), submit(0, write(4, "f")), submit(0, read(7)), submit(1, write(7, "c"))},
		2:              {submit(0, write(7, "e")), query(1, 2, read(3)), submit(1, add("f")), submit(1, add("g")), submit(1, write(2, "e")), submit(0, read(1)), submit(1, write(6, "e")), submit(0, add("a"))},
		math.MaxUint64: {query(0, 1, read(2)), submit(0, write(5, "e")), submit(0, add("f")), submit(1, write(2, "b")), submit(0, read(2)), submit(1, write(5, "h")), submit(1, write(2, "g")), submit(0, write(0, "d"))},
	} {
		expectScript(t, head+"load 8\n", seed, want...)
		expectScript(t, head+strings.Repeat("load 1\n", 8), seed, want...)
		expectScript(t, head+"load 3\nheal\nload 5", seed, want...)
		expectScript(t, head+"load 1\n", seed, want[0])
	}
}

// acts: what clients do so many times, by the words.
func acts(next func(int) int, clients, nodes, times int) []api.Event {
	var l []api.Event
	for range times {
		client, kind := next(clients), next(5)
		a := next([]int{8, 8, 8, 8, nodes}[kind])
		letter := func(n int) string { return "abcdefgh"[n : n+1] }
		switch kind {
		case 0, 1:
			l = append(l, submit(client, write(a, letter(next(8)))))
		case 2:
			l = append(l, submit(client, add(letter(a))))
		case 3:
			l = append(l, submit(client, read(a)))
		case 4:
			l = append(l, query(client, a, read(next(8))))
		}
	}
	return l
}

// submits: the first seed whose first act of one client is no query.
func submits() uint64 {
	for seed := uint64(0); ; seed++ {
		if next := wordsOf(seed); acts(next, 1, 3, 1)[0].Kind == api.EventSubmit {
			return seed
		}
	}
}

// queries: the first seed whose first act of one client, among three replicas, is a query at that one.
func queries(node int) uint64 {
	for seed := uint64(0); ; seed++ {
		if e := acts(wordsOf(seed), 1, 3, 1)[0]; e.Kind == api.EventQuery && e.Node == node {
			return seed
		}
	}
}

// Groups of each size, from one client to as many as there may be.
func TestLoadOfManyClients(t *testing.T) {
	kinds, clients, nodes, slots := make(map[api.EventKind]int), make(map[int]int), make(map[int]int), make(map[int]int)
	for _, g := range groups {
		for _, n := range []int{1, 2, 3, 7, 15, 16} {
			for seed := range uint64(30) {
				times := []int{1, 2, 5, 100}[seed%4]
				want := acts(wordsOf(seed<<40), n, g.nodes, times)
				expectScript(t, fmt.Sprintf("%s%sload %d\n", g.line, strings.Repeat("client 3\n", n), times), seed<<40, want...)
				for _, e := range want {
					kinds[e.Kind]++
					clients[e.Client]++
					slots[e.Op.Slot]++
					if e.Kind == api.EventQuery {
						nodes[e.Node]++
					}
				}
			}
		}
	}
	expectEnough(t, kinds, map[api.EventKind]int{api.EventSubmit: 1000, api.EventQuery: 300})
	if len(clients) != 16 || len(nodes) != 7 || len(slots) != 8 {
		t.Fatal(clients, nodes, slots)
	}
}

// Without clients nothing is laid, and no word is drawn.
func TestLoadWithoutClients(t *testing.T) {
	expectScript(t, group+"load 100\n", 5)
	for seed := range uint64(20) {
		_, want := compiled(t, group+"churn 100 6\n", seed)
		expectScript(t, group+"load 100\nload 1\nchurn 100 6\nload 50\n", seed, want...)
	}
}

// A client whose number is at its end makes no request: the cluster refuses that, and the words are drawn all the same. It reads as any other.
func TestRequestsThatAreRefused(t *testing.T) {
	met := 0
	for seed := range uint64(30) {
		for _, left := range []int{0, 1, 5} {
			requests := left // that the first client may still make
			all := acts(wordsOf(seed), 2, 3, 40)
			want := slices.DeleteFunc(slices.Clone(all), func(e api.Event) bool {
				if e.Kind != api.EventSubmit || e.Client != 0 {
					return false
				}
				requests--
				return requests < 0
			})
			expectScript(t, fmt.Sprintf("%sclient %d\nclient 0\nload 40\n", group, greatest-left), seed, want...)
			met += len(all) - len(want)
		}
		queries := slices.DeleteFunc(acts(wordsOf(seed), 1, 3, 40), func(e api.Event) bool { return e.Kind != api.EventQuery })
		expectScript(t, group+"client 9223372036854775807\nload 40\n", seed, queries...)
	}
	if met < 500 {
		t.Fatal("too few:", met)
	}
}
