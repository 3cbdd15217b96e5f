package linear

import (
	"math"

	"amnesia/api"
	"amnesia/ledger"
)

// Holds: -1, if an order is a witness; else the place in it of the first call that breaks it, or its length, if none does and an answered call is missing. ErrCalls; ErrWitness: it is no order of these calls.
func Holds(l []api.Call, order []int) (int, api.Errno) {
	if e := Check(l); e != api.OK {
		return 0, e
	}
	stands, is := standing(l, order)
	if !is {
		return 0, api.ErrWitness
	}
	soonest := soonestLeft(l, order, stands)
	at := ledger.New()
	for i, place := range order {
		c := l[place]
		result := at.Do(c.Op)
		if soonest[i] < c.Begin || isAnswered(c) && result != c.Result {
			return i, api.OK
		}
	}
	if lacksAnswered(l, stands) {
		return len(order), api.OK
	}
	return -1, api.OK
}

// Order: the order that a sequence gives: the places of those of its entries that are calls. ErrCalls; ErrWitness: an answered call is not in it, or a call is twice.
func Order(l []api.Call, seq []api.Entry) ([]int, api.Errno) {
	if e := Check(l); e != api.OK {
		return nil, e
	}
	places := make(map[api.Entry]int, len(l))
	for place, c := range l {
		places[entryOf(c)] = place
	}
	var order []int
	for _, e := range seq {
		if place, is := places[e]; is {
			order = append(order, place)
		}
	}
	if stands, is := standing(l, order); !is || lacksAnswered(l, stands) {
		return nil, api.ErrWitness
	}
	return order, api.OK
}

// standing: of each call, does it stand in an order? False: a number is no call's place, or stands there twice.
func standing(l []api.Call, order []int) ([]bool, bool) {
	stands := make([]bool, len(l))
	for _, place := range order {
		if place < 0 || place >= len(l) || stands[place] {
			return nil, false
		}
		stands[place] = true
	}
	return stands, true
}

func lacksAnswered(l []api.Call, stands []bool) bool {
	for place, c := range l {
		if isAnswered(c) && !stands[place] {
			return true
		}
	}
	return false
}

// soonestLeft: for each place in an order the least End of the answered calls that do not stand ahead of it, so that all of them need not be gone through at each place; the greatest number, which is below no Begin, if there are none.
func soonestLeft(l []api.Call, order []int, stands []bool) []int {
	soonest := math.MaxInt
	for place, c := range l {
		if isAnswered(c) && !stands[place] {
			soonest = min(soonest, c.End)
		}
	}
	left := make([]int, len(order))
	for i := len(order) - 1; i >= 0; i-- {
		if c := l[order[i]]; isAnswered(c) {
			soonest = min(soonest, c.End)
		}
		left[i] = soonest
	}
	return left
}
