package history_test

import (
	"testing"

	"amnesia/api"
	"amnesia/history"
)

// The chapter's examples.

func TestExample1(t *testing.T) {
	expect(t, setup, []api.Seen{asked(eE), done(0, 0, 1, eE), reply(0, 1, res(api.ResWritten, 7, "a"))}, -1, nil, eE)
}

func TestExample2(t *testing.T) {
	expect(t, setup, []api.Seen{asked(eE), asked(eG), done(0, 0, 1, eE), done(1, 0, 1, eG)}, 3, history.ErrParted, eE)
}

func TestExample3(t *testing.T) {
	expect(t, setup, []api.Seen{done(0, 0, 1, eE)}, 0, history.ErrUnasked)
	expect(t, setup, []api.Seen{asked(eE), done(0, 0, 2, eE)}, 1, history.ErrGap)
}

func TestExample4(t *testing.T) {
	first := []api.Seen{asked(eE), done(0, 0, 1, eE)}
	expect(t, setup, append(first, lead(1, 1)), 2, history.ErrLead, eE)
	expect(t, setup, append(first, lead(1, 1, eE)), -1, nil, eE)
	expect(t, setup, append(first, lead(1, 1, eE), lead(1, 1, eE)), 3, history.ErrLogs, eE)
}

func TestExample5(t *testing.T) {
	expect(t, setup, []api.Seen{asked(eE), done(0, 0, 1, eE), down(2), up(2, lo(1)), back(2, 0)}, 4, history.ErrForgot, eE)
	expect(t, setup, []api.Seen{asked(eE), down(2), up(2, lo(1)), done(0, 0, 1, eE), back(2, 0)}, -1, nil, eE)
}

func TestExample6(t *testing.T) {
	expectPremises(t, three, []api.Seen{down(0), down(1)}, premise(1, -1, -1))
	expectPremises(t, three, []api.Seen{up(0, lo(5)), up(0, lo(5))}, premise(-1, 1, -1))
	never := api.Packet{From: 0, To: 1, Bytes: commit(t, three)}
	expectPremises(t, three, []api.Seen{taken(never)}, premise(-1, -1, 0))
	never.Bytes[9] ^= 1
	expectPremises(t, three, []api.Seen{taken(never)}, premise(-1, -1, -1))
}
