package history_test

import (
	"bytes"
	"math"
	"testing"

	"amnesia/api"
)

// P16.1.

func TestFew(t *testing.T) {
	any := func(node int) api.Seen { return up(node, lo(uint64(node)+1)) }
	for _, x := range []struct {
		c    api.Config
		rows []api.Seen
		few  int
	}{
		{three, []api.Seen{down(0)}, -1},
		{three, []api.Seen{any(0)}, -1},
		{three, []api.Seen{down(0), down(1)}, 1},
		{three, []api.Seen{any(2), any(1)}, 1},
		{three, []api.Seen{down(0), any(1)}, 1},
		{three, []api.Seen{down(0), any(0), down(1)}, 2},               // who recovers is not there yet
		{three, []api.Seen{down(0), any(0), back(0, 0), down(1)}, -1},  // who is back is
		{three, []api.Seen{down(0), back(0, 0), down(1)}, -1},          // whatever it was
		{three, []api.Seen{down(0), down(0), any(0)}, -1},              // one and the same
		{three, []api.Seen{down(0), down(0), back(0, 0), down(1)}, -1}, // and it is back at once
		{three, []api.Seen{any(0), up(0, lo(9)), back(0, 0), down(1), down(0)}, 4},
		{three, []api.Seen{back(0, 0), back(0, 0), down(1), down(2)}, 3},             // who never was down counts for nothing
		{three, []api.Seen{back(0, 0), down(0), down(1), back(0, 0), back(1, 0)}, 2}, // it stays told
		{three, []api.Seen{down(0), asked(eE), taken(api.Packet{}), down(1)}, 3},
		{three, []api.Seen{down(2), down(1), down(0)}, 1},
		{five, []api.Seen{down(0), down(1)}, -1},
		{five, []api.Seen{down(0), any(4), down(3)}, 2},
		{five, []api.Seen{down(0), down(1), back(1, 0), any(2), back(0, 0), down(4), down(3)}, 6},
		{seven, []api.Seen{down(0), down(6), any(5)}, -1},
		{seven, []api.Seen{down(0), down(6), any(5), down(3)}, 3},
	} {
		expectPremises(t, x.c, x.rows, premise(x.few, -1, -1))
	}
}

func TestFresh(t *testing.T) {
	const most = math.MaxUint64
	d := func(hi, lo uint64) api.Draw { return api.Draw{Hi: hi, Lo: lo} }
	for _, x := range []struct {
		rows  []api.Seen
		fresh int
	}{
		{[]api.Seen{up(0, d(0, 1))}, -1},
		{[]api.Seen{up(0, d(0, 0))}, 0},
		{[]api.Seen{up(0, d(1, 0))}, -1},
		{[]api.Seen{up(0, d(most, most))}, -1},
		{[]api.Seen{up(0, d(0, 1)), up(0, d(0, 2)), up(0, d(0, most)), up(0, d(1, 0)), up(0, d(1, 1)), up(0, d(most, 0)), up(0, d(most, most))}, -1},
		{[]api.Seen{up(0, d(0, 5)), up(0, d(0, 5))}, 1},
		{[]api.Seen{up(0, d(0, 5)), up(0, d(0, 4))}, 1},
		{[]api.Seen{up(0, d(0, 5)), up(0, d(0, 0))}, 1},
		{[]api.Seen{up(0, d(5, 0)), up(0, d(5, 0))}, 1},
		{[]api.Seen{up(0, d(5, 0)), up(0, d(4, most))}, 1},
		{[]api.Seen{up(0, d(5, 3)), up(0, d(5, 2))}, 1},
		{[]api.Seen{up(0, d(5, 3)), up(0, d(6, 2))}, -1},
		{[]api.Seen{up(0, d(most, most)), up(0, d(most, most))}, 1},
		{[]api.Seen{up(0, d(0, 3)), up(0, d(0, 5)), up(0, d(0, 4))}, 2},                 // above all, not above the first
		{[]api.Seen{up(0, d(0, 3)), up(0, d(0, 2)), up(0, d(0, 2)), up(0, d(0, 0))}, 1}, // the first counts
		{[]api.Seen{up(0, d(0, 5)), up(1, d(0, 5)), up(2, d(0, 4)), up(0, d(0, 6))}, -1},
		{[]api.Seen{up(0, d(0, 5)), up(1, d(0, 7)), up(0, d(0, 6)), up(1, d(0, 6))}, 3},
		{[]api.Seen{up(0, d(0, 5)), up(1, d(0, 0))}, 1},
		{[]api.Seen{down(0), up(0, d(0, 5)), asked(eE), back(0, 0), down(0), up(0, d(0, 5))}, 5},
		{[]api.Seen{{Kind: api.SeenDown, Draw: d(0, 9)}, {Kind: api.SeenBack, Draw: d(0, 9)}, {Kind: api.SeenAsked, Draw: d(0, 9)}, up(0, d(0, 5))}, -1}, // others have no draws
	} {
		rows := x.rows
		for _, c := range []api.Config{five, seven} { // with F 1 some of these are too many at one time
			expectPremises(t, c, rows, premise(fewOf(c, rows), x.fresh, -1))
		}
	}
}

func TestGenuine(t *testing.T) {
	frame := commit(t, three)
	p := api.Packet{From: 0, To: 1, Bytes: frame}
	other := api.Packet{From: 0, To: 1, Bytes: recovery(t, three, 2, lo(5))}
	elsewhere, stranger := api.Packet{From: 0, To: 2, Bytes: frame}, api.Packet{From: 2, To: 1, Bytes: frame}
	spoilt := api.Packet{From: 0, To: 1, Bytes: bytes.Clone(frame)}
	spoilt.Bytes[len(frame)-1] ^= 1
	longer, shorter := api.Packet{To: 1, Bytes: append(bytes.Clone(frame), 0)}, api.Packet{To: 1, Bytes: frame[:len(frame)-1]}
	toClient := api.Packet{From: 0, To: api.MaxNodes, Bytes: frame}
	for _, x := range []struct {
		rows    []api.Seen
		genuine int
	}{
		{[]api.Seen{sent(p), taken(p)}, -1},
		{[]api.Seen{sent(p), taken(p), taken(p), sent(other), taken(other), taken(p)}, -1}, // as often as it likes
		{[]api.Seen{taken(p)}, 0},
		{[]api.Seen{taken(p), sent(p)}, 0}, // ahead of its Sent
		{[]api.Seen{sent(p), taken(other)}, 1},
		{[]api.Seen{sent(p), taken(elsewhere)}, 1}, // another To
		{[]api.Seen{sent(elsewhere), sent(p), taken(elsewhere), taken(p)}, -1},
		{[]api.Seen{sent(p), taken(stranger)}, -1}, // another From
		{[]api.Seen{sent(p), taken(spoilt)}, -1},   // these do not decode
		{[]api.Seen{taken(spoilt), taken(longer), taken(shorter), taken(api.Packet{}), taken(api.Packet{To: 1, Bytes: []byte{}})}, -1},
		{[]api.Seen{sent(spoilt), taken(p)}, 1},
		{[]api.Seen{sent(p), taken(toClient)}, 1},
		{[]api.Seen{sent(toClient), taken(toClient)}, -1},
		{[]api.Seen{sent(p), taken(spoilt), taken(other), taken(elsewhere), sent(other)}, 2}, // the first counts
		{[]api.Seen{{Kind: api.SeenAsked, Packet: p}, {Kind: api.SeenUp, Draw: lo(1), Packet: p}, taken(p)}, 2},
		{[]api.Seen{{Kind: api.SeenAsked, Packet: p}, {Kind: api.SeenDone, Packet: p}}, -1}, // neither comes
		{[]api.Seen{taken(api.Packet{From: math.MinInt, To: math.MaxInt, Bytes: frame})}, 0},
		{[]api.Seen{sent(api.Packet{From: 9, To: math.MaxInt, Bytes: frame}), taken(api.Packet{From: math.MinInt, To: math.MaxInt, Bytes: frame})}, -1},
	} {
		expectPremises(t, three, x.rows, premise(-1, -1, x.genuine))
	}
	// What decodes hangs on the group: here this is no message.
	expectPremises(t, five, []api.Seen{taken(p)}, premise(-1, -1, -1))
}

// Each by itself, and all three at once.
func TestPremisesAreAskedApart(t *testing.T) {
	p := api.Packet{To: 1, Bytes: commit(t, three)}
	expectPremises(t, three, []api.Seen{taken(p), up(0, lo(0)), down(1)}, premise(2, 1, 0))
	expectPremises(t, three, []api.Seen{down(1), down(0), up(0, lo(4)), up(0, lo(4)), taken(p)}, premise(1, 3, 4))
	expectPremises(t, three, []api.Seen{down(1), up(0, lo(0))}, premise(1, 1, -1))
	// The judge's faults are none of theirs.
	expectPremises(t, three, []api.Seen{done(0, 0, 5, eE), lead(0, 1), lead(0, 1), reply(0, 1, api.Result{})}, premise(-1, -1, -1))
}
