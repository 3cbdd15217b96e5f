package cluster_test

import (
	"testing"

	"amnesia/api"
	"amnesia/cluster"
)

// Run, and how many events there may be.

func TestRun(t *testing.T) {
	setup := setupOf(three, 0, 0)
	script := []api.Event{submit(0, write(7, "a")), rounds(4), submit(1, write(7, "b")), deliver(0, 2), rounds(20), restart(0, lo(5), 0), rounds(3), query(1, 0, read(7)), rounds(2)}
	want := paired(t, setup).do(script...)
	rows, at, e := cluster.Run(setup, script)
	if e != api.OK || at != len(script) || !sameRows(rows, want) || len(rows) < 50 {
		t.Error(at, e, rows)
	}
	if last := rows[len(rows)-1].Event; last != len(script)-1 {
		t.Error(last)
	}
	for _, script := range [][]api.Event{nil, {}} {
		if rows, at, e := cluster.Run(setup, script); len(rows) != 0 || at != 0 || e != api.OK {
			t.Error(rows, at, e)
		}
	}
}

// At the first error: what was seen till then, that event's place, and the error.
func TestRunStopsAtAnError(t *testing.T) {
	setup := setupOf(three, 0)
	good := []api.Event{submit(0, write(7, "a")), rounds(2), crash(1)}
	for at := range len(good) + 1 {
		for _, bad := range []api.Event{{}, submit(1, count), rounds(0), restart(0, api.Draw{}, 0)} {
			script := append(append(append([]api.Event(nil), good[:at]...), bad, bad), good[at:]...)
			want := paired(t, setup).do(good[:at]...)
			rows, place, e := cluster.Run(setup, script)
			if e != api.ErrEvent || place != at || !sameRows(rows, want) {
				t.Error(at, bad, rows, place, e)
			}
		}
	}
}

func TestMaxEvents(t *testing.T) {
	t.Parallel()
	w := paired(t, setupOf(three, 0))
	script := make([]api.Event, 4096)
	for i := range script {
		script[i] = crash(i % 3)
		if i%5 == 1 {
			script[i] = tick(0, 0)
		}
		w.refuse(api.Event{}) // it does not count
		w.do(script[i])
	}
	if w.u.Events() != 4096 {
		t.Fatal(w.u.Events())
	}
	for _, e := range []api.Event{tick(0, 0), rounds(1), submit(0, count), {}, {Kind: 99}, rounds(0), tick(-1, 0), submit(7, api.Op{})} {
		w.try(e, api.ErrEvents) // be it one that may be or not
	}
	rows, at, e := cluster.Run(setupOf(three, 0), script)
	if e != api.OK || at != 4096 || len(rows) != 3 {
		t.Error(at, e, rows)
	}
	for _, last := range []api.Event{crash(0), {}} {
		rows, at, e = cluster.Run(setupOf(three, 0), append(append([]api.Event(nil), script...), last, last))
		if e != api.ErrEvents || at != 4096 || len(rows) != 3 {
			t.Error(at, e, rows)
		}
	}
}
