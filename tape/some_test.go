package tape_test

import (
	"math"
	"math/rand/v2"
	"strings"

	"amnesia/api"
)

// Things drawn.

// someEvent: one that may be put, mostly, with whatever in the fields that it does not use.
func someEvent(r *rand.Rand) api.Event {
	e := full(api.EventKind(r.IntN(12) + 1))
	for _, numbers := range numbersOf(&e) {
		for _, n := range numbers {
			*n = pick(r, 0, 1, 2, r.IntN(300), r.IntN(100000), 1<<32, greatest)
			if r.IntN(40) == 0 {
				*n = pick(r, -1, least)
			}
		}
	}
	e.Draw = api.Draw{Hi: pick(r, 0, 1, r.Uint64(), math.MaxUint64), Lo: pick(r, 0, 1, r.Uint64(), math.MaxUint64)}
	e.Op.Value = strings.Repeat("v", pick(r, 0, 1, r.IntN(64), r.IntN(64), 64, 64, 65))
	e.Bytes = inject(pick(r, 0, 1, r.IntN(300))).Bytes
	if r.IntN(50) == 0 {
		e.Bytes = inject(pick(r, 16383, 16384, 16385)).Bytes
	}
	if r.IntN(50) == 0 {
		e.Kind = pick(r, wrongKinds...)
	}
	return e
}

// goodEvent: one that may be, with what it does not use being zero.
func goodEvent(r *rand.Rand) api.Event {
	for {
		e := plain(someEvent(r))
		if _, err := modelPut(e); err == api.OK {
			return e
		}
	}
}

func goodEvents(r *rand.Rand, n int) []api.Event {
	var l []api.Event
	for range n {
		l = append(l, goodEvent(r))
	}
	return l
}
