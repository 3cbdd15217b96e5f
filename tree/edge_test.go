package tree

import (
	"testing"

	"amnesia/api"
)

// What a Tree keeps beside its leaves is no more than the edge: of each binary digit of its size the Head of that full tree, the greatest first in the log, and nothing at the other heights.
func TestEdge(t *testing.T) {
	x := New()
	var l []api.Entry
	for size := 1; size <= 70; size++ {
		l = append(l, api.Entry{Number: size})
		x.Add(l[size-1])
		from := 0
		var want [heights]api.Hash
		for h := heights - 1; h >= 0; h-- {
			if size&(1<<h) != 0 {
				want[h] = Head(l[from : from+1<<h])
				from += 1 << h
			}
		}
		if x.edge != want || from != size || len(x.leaves) != size {
			t.Fatal("another edge:", size)
		}
	}
}
