package replica_test

import (
	"testing"

	"amnesia/api"
	"amnesia/replica"
)

// The chapter's examples 1 to 4: F 1, Room 4, Patience 6.

var asked = api.Entry{Client: 2, Number: 1, Op: write(7, "a")}

// requested: replica 0 of three, behind a request.
func requested(t *testing.T) (*replica.Replica, []api.Packet) {
	t.Helper()
	r := first(t, three, 0)
	return r, handle(t, r, three, api.Msg{Kind: api.KindRequest, Entry: asked})
}

func TestExample1(t *testing.T) {
	r, l := requested(t)
	want := api.State{Self: 0, Status: api.StatusNormal, Log: []api.Entry{asked}, Vector: los(0, 0, 0)}
	prepare := api.Msg{Kind: api.KindPrepare, Place: 1, Entry: asked}
	if !samePackets(l, packets(t, three, 0, from(want, 1, prepare), from(want, 2, prepare))) {
		t.Error(decoded(t, three, l))
	}
	expectLooks(t, "a request", r, want)
	if rows := r.Rows(); len(r.Cells()) > 0 || len(rows) != 1 || rows[0] != (api.Row{Client: 2, Number: 1, Place: 1}) {
		t.Error(r.Cells(), rows)
	}
}

func TestExample2(t *testing.T) {
	r, _ := requested(t)
	l := handle(t, r, three, api.Msg{Kind: api.KindPrepareOK, Node: 1, Place: 1, Vector: los(0, 0, 0)})
	want := api.State{Self: 0, Status: api.StatusNormal, Log: []api.Entry{asked}, Commit: 1, Vector: los(0, 0, 0), Acks: []api.Ack{{Node: 1, Place: 1}}}
	written := api.Result{Code: api.ResWritten, Slot: 7, Value: "a"}
	reply := api.Msg{Kind: api.KindReply, Place: 1, Entry: api.Entry{Client: 2, Number: 1}, Result: written}
	commit := api.Msg{Kind: api.KindCommit, Commit: 1}
	if !samePackets(l, packets(t, three, 0, from(want, 9, reply), from(want, 1, commit), from(want, 2, commit))) {
		t.Error(decoded(t, three, l))
	}
	expectLooks(t, "an acknowledgement", r, want)
	cells, rows := r.Cells(), r.Rows()
	if len(cells) != 1 || cells[0] != (api.Cell{Slot: 7, Value: "a"}) || len(rows) != 1 || rows[0] != (api.Row{Client: 2, Number: 1, Place: 1, Done: true, Result: written}) {
		t.Error(cells, rows)
	}
}

func TestExample3(t *testing.T) {
	r, l := again(t, three, 0, lo(5))
	want := api.State{Self: 0, Status: api.StatusRecovering, Vector: los(5, 0, 0)}
	recovery := api.Msg{Kind: api.KindRecovery, Draw: lo(5)}
	out := packets(t, three, 0, from(want, 1, recovery), from(want, 2, recovery))
	for range 20 {
		if !samePackets(l, out) {
			t.Fatal(decoded(t, three, l))
		}
		expectLooks(t, "recovering", r, want)
		l = tick(t, r)
	}
}

func TestExample4(t *testing.T) {
	r, _ := requested(t)
	want := r.State()
	spoilt := frame(t, three, api.Msg{Kind: api.KindRequest, Entry: api.Entry{Client: 3, Number: 1, Op: count}})
	spoilt[10] ^= 1
	if l, e := r.Handle(spoilt); e != api.ErrSum || len(l) > 0 {
		t.Error(l, e)
	}
	expectLooks(t, "spoilt", r, want)
}
