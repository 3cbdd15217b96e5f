package nemesis_test

import (
	"fmt"
	"slices"
	"testing"

	"amnesia/api"
)

// run: rounds, and what becomes of packets in them.

func ticks(nodes ...int) []api.Event {
	var l []api.Event
	for _, node := range nodes {
		l = append(l, tick(node))
	}
	return l
}

// joined: these events, one list behind the other.
func joined(l ...[]api.Event) []api.Event { return slices.Concat(l...) }

func one(e api.Event) []api.Event { return []api.Event{e} }

// A group without clients: in the first round nothing is under way, and the primary's tick sends two Commits.
func TestRounds(t *testing.T) {
	first := ticks(0, 1, 2)
	expectScript(t, group+"run 1\n", 3, first...)
	second := joined(first, repeated(2, deliver(0)), first)
	expectScript(t, group+"run 2\n", 3, second...)
	expectScript(t, group+"run 1\nrun 1\n", 3, second...)
	expectScript(t, group+"run 5\n", 3, joined(first, repeated(4, joined(repeated(2, deliver(0)), first)...))...)
	expectScript(t, "group 3 20 6\nrun 2\n", 3, joined(ticks(0, 1, 2, 3, 4, 5, 6), repeated(6, deliver(0)), ticks(0, 1, 2, 3, 4, 5, 6))...)
}

// asked: a plan ahead of whose first round one client has made a request (with the seed of submits), with these shares.
func asked(fault, rest string) string {
	return group + "client 0\nload 1\nfault " + fault + "\nrun 1\n" + rest
}

// Each share at 100 of a hundred, and all at 0. The request is asked again at the beginning of the round: six packets are under way then. What is sent meanwhile stays.
func TestSharesAtTheirEnds(t *testing.T) {
	seed := submits()
	next := wordsOf(seed)
	request := acts(next, 1, 3, 1)[0]
	begin, end := []api.Event{request, retry(0)}, ticks(0, 1, 2)
	var spoils []api.Event
	for range 6 {
		next(100)
		at := next(64)
		spoils = append(spoils, spoil(0, at, 1+next(255)), deliver(0))
	}
	for _, x := range []struct {
		fault string
		want  []api.Event
		pool  int // behind the round
		log   int // of replica 0
	}{
		{"0 0 0 0", repeated(6, deliver(0)), 2 + 4, 1}, // two Prepares, and by the primary's tick two Commits and two Prepares
		{"100 0 0 0", repeated(6, drop(0)), 2, 0},
		{"0 100 0 0", repeated(6, twice(0), deliver(0)), 6 + 2 + 4, 1},
		{"0 0 100 0", spoils, 2, 0},
		{"0 0 0 100", nil, 6 + 2, 0},
	} {
		plan := asked(x.fault, "")
		expectScript(t, plan, seed, joined(begin, x.want, end)...)
		u := played(t, plan, seed)
		if s, _ := u.Look(0); len(u.Pool()) != x.pool || len(s.Log) != x.log {
			t.Fatalf("%s: %d packets, log %d", x.fault, len(u.Pool()), len(s.Log))
		}
		// So many words are drawn, whatever becomes of a packet: a spoilt one draws three.
		again := wordsOf(seed)
		acts(again, 1, 3, 1)
		for range map[bool]int{false: 6, true: 18}[x.fault == "0 0 100 0"] {
			again(1)
		}
		_, l := compiled(t, asked(x.fault, "load 2\n"), seed)
		if want := acts(again, 1, 3, 2); !sameEvents(l[len(l)-2:], want) {
			t.Fatal(x.fault, l[len(l)-2:], want)
		}
	}
}

// withWord: the first seed whose first word modulo 100 is w.
func withWord(w int) uint64 {
	for seed := uint64(0); ; seed++ {
		if wordsOf(seed)(100) == w {
			return seed
		}
	}
}

// fateOf: what becomes of the packet in a place, by the words, with these shares; and the place of the next packet.
func fateOf(next func(int) int, shares [4]int, place int) ([]api.Event, int) {
	w := next(100)
	var fates []int // of each w from 0 to 99
	for fate, share := range shares {
		fates = append(fates, slices.Repeat([]int{fate}, share)...)
	}
	fates = append(fates, slices.Repeat([]int{4}, 100-len(fates))...)
	switch fates[w] {
	case 0:
		return one(drop(place)), place
	case 1:
		return []api.Event{twice(place), deliver(place)}, place
	case 2:
		at := next(64)
		return []api.Event{spoil(place, at, 1+next(255)), deliver(place)}, place
	case 3:
		return nil, place + 1
	}
	return one(deliver(place)), place
}

// Each word from 0 to 99 against shares of all kinds: the two Commits of the first round are under way.
func TestEachWord(t *testing.T) {
	for _, shares := range [][4]int{{10, 20, 30, 25}, {1, 1, 1, 1}, {0, 50, 0, 50}, {25, 25, 25, 25}, {99, 0, 0, 1}, {0, 0, 1, 0}, {0, 0, 0, 99}, {33, 0, 33, 0}, {0, 0, 0, 0}, {50, 0, 0, 0}, {0, 99, 1, 0}} {
		plan := fmt.Sprintf("%srun 1\nfault %d %d %d %d\nrun 1\n", group, shares[0], shares[1], shares[2], shares[3])
		for w := range 100 {
			seed := withWord(w)
			next := wordsOf(seed)
			a, place := fateOf(next, shares, 0)
			b, _ := fateOf(next, shares, place)
			expectScript(t, plan, seed, joined(ticks(0, 1, 2), a, b, ticks(0, 1, 2))...)
		}
	}
}

// What is spoilt is another byte of the packet, and nothing comes of it; a place beyond its end is taken modulo its length.
func TestWhatIsSpoilt(t *testing.T) {
	places, masks := make(map[int]int), make(map[int]int)
	for seed := range uint64(300) {
		s, l := compiled(t, group+"run 1\nfault 0 0 100 0\nrun 4\n", seed)
		for _, e := range l {
			if e.Kind == api.EventSpoil {
				places[e.At]++
				masks[e.Count]++
			}
		}
		for _, row := range ran(t, s, l) {
			if row.Kind != api.SeenSent && row.Kind != api.SeenTaken {
				t.Fatal(seed, row)
			}
			if row.Kind == api.SeenSent && row.Packet.From != 0 {
				t.Fatal("somebody has understood a spoilt packet:", seed, row)
			}
		}
	}
	if len(places) != 64 || len(masks) != 255 || places[0] == 0 || places[63] == 0 || masks[1] == 0 || masks[255] == 0 {
		t.Fatal(len(places), len(masks))
	}
}

// A fault holds from its line on, up to the next one; a calm round knows of none.
func TestFromHereOn(t *testing.T) {
	t.Parallel()
	all := ticks(0, 1, 2)
	expectScript(t, group+"run 1\nfault 100 0 0 0\nrun 2\nfault 0 0 0 0\nrun 1\n", 8, joined(all, repeated(2, drop(0)), all, repeated(2, drop(0)), all, repeated(2, deliver(0)), all)...)
	expectScript(t, group+"fault 0 0 0 100\nfault 100 0 0 0\nrun 2\n", 8, joined(all, repeated(2, drop(0)), all)...)
	expectScript(t, group+"fault 100 0 0 0\nrun 1\nfault 0 0 0 100\nrun 3\nfault 100 0 0 0\nrun 1", 8, joined(all, all, all, all, repeated(8, drop(0)), all)...)
	for seed := range uint64(10) {
		next := wordsOf(seed)
		quiet := "fault 100 0 0 0\nsplit 0\nclock 0 9\nclock 1 0\n"
		expectScript(t, group+"client 0\n"+quiet+"calm 7\ncalm 2000\ncalm 1\nload 3\n", seed, joined([]api.Event{round(7), round(2000), round(1)}, acts(next, 1, 3, 3))...)
	}
	u := played(t, group+"client 0\nload 1\nfault 100 0 0 0\nsplit 0\nclock 0 0\nclock 1 0\nclock 2 0\ncalm 4\n", submits())
	if c, _ := u.Client(0); c.Waits {
		t.Fatal("a calm round is calm:", c)
	}
}

// Clients that wait ask again, rising, ahead of all packets; those that do not, do not.
func TestRetries(t *testing.T) {
	met := make(map[int]int)
	for seed := range uint64(60) {
		l := acts(wordsOf(seed), 4, 3, 5)
		waits := make(map[int]bool)
		for _, e := range l {
			if e.Kind == api.EventSubmit {
				waits[e.Client] = true
			}
		}
		var again []api.Event
		for client := range 4 {
			if waits[client] {
				again = append(again, retry(client))
			}
		}
		met[len(again)]++
		plan := group + "client 0\nclient 4\nclient 0\nclient 9\nload 5\nfault 0 0 0 100\n"
		expectScript(t, plan+"run 2\n", seed, joined(l, again, ticks(0, 1, 2), again, ticks(0, 1, 2))...)
		// They are answered in the quiet rounds, and then ask no more.
		expectScript(t, plan+"calm 4\nclock 0 0\nrun 1\n", seed, joined(l, one(round(4)), ticks(1, 2))...)
	}
	expectEnough(t, met, map[int]int{1: 1, 2: 5, 3: 10, 4: 2})
}
