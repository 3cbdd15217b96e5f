package history_test

import (
	"bytes"
	"math/big"
	"slices"

	"amnesia/api"
	"amnesia/history"
	"amnesia/ledger"
	"amnesia/message"
)

// The chapter's words in another form: each row is held against all rows ahead of it.

func hasAt(log []api.Entry, place int, e api.Entry) bool {
	return place >= 1 && place <= len(log) && log[place-1] == e
}

func some(rows []api.Seen, k api.SeenKind, is func(api.Seen) bool) bool {
	return slices.ContainsFunc(rows, func(row api.Seen) bool { return row.Kind == k && is(row) })
}

func opsOf(l []api.Entry) []api.Op {
	var ops []api.Op
	for _, e := range l {
		ops = append(ops, e.Op)
	}
	return ops
}

// placeOf: where a list has that request; 0: nowhere.
func placeOf(l []api.Entry, client, number int) int {
	return 1 + slices.IndexFunc(l, func(e api.Entry) bool { return e.Client == client && e.Number == number })
}

// answerAt: what the ledger answers at a place of the sequence.
func answerAt(sequence []api.Entry, place int) api.Result {
	_, results := ledger.Replay(opsOf(sequence))
	return results[place-1]
}

// readingAt: what the ledger answers behind so many entries of the sequence.
func readingAt(sequence []api.Entry, entries int, op api.Op) api.Result {
	_, results := ledger.Replay(append(opsOf(sequence[:entries]), op))
	return results[entries]
}

// recoversIn: whether a node is recovering behind these rows.
func recoversIn(rows []api.Seen, node int) bool {
	for _, row := range slices.Backward(rows) {
		if row.Node == node && (row.Kind == api.SeenUp || row.Kind == api.SeenBack || row.Kind == api.SeenDown) {
			return row.Kind == api.SeenUp
		}
	}
	return false
}

// model: the sequence, the first fault and why it is one.
func model(c api.Config, rows []api.Seen) (sequence []api.Entry, fault int, why error) {
	var lengths []int // of the sequence, ahead of each row
	for i, row := range rows {
		lengths = append(lengths, len(sequence))
		if why := modelWhy(c, rows[:i], lengths, sequence, row); why != nil {
			return sequence, i, why
		}
		if row.Kind == api.SeenDone && row.Place == len(sequence)+1 {
			sequence = append(sequence, row.Entry)
		}
	}
	return sequence, -1, nil
}

func modelWhy(c api.Config, ahead []api.Seen, lengths []int, sequence []api.Entry, row api.Seen) error {
	switch row.Kind {
	case api.SeenDone:
		return modelDone(ahead, sequence, row)
	case api.SeenLead:
		return modelLead(ahead, row)
	case api.SeenBack:
		k := 0
		for i, other := range ahead {
			if other.Kind == api.SeenUp && other.Node == row.Node {
				k = lengths[i]
			}
		}
		for place := 1; place <= k; place++ {
			if !hasAt(row.Log, place, sequence[place-1]) {
				return history.ErrForgot
			}
		}
	case api.SeenReply:
		place := placeOf(sequence, row.Entry.Client, row.Entry.Number)
		if place == 0 || answerAt(sequence, place) != row.Result {
			return history.ErrReply
		}
	case api.SeenSent:
		m, e := message.Decode(c, row.Packet.Bytes)
		if row.Packet.From >= 0 && row.Packet.From < 2*c.F+1 && recoversIn(ahead, row.Packet.From) && (e != api.OK || m.Kind != api.KindRecovery) {
			return history.ErrSpoke
		}
	case api.SeenTold:
		return modelTold(ahead, sequence, row)
	}
	return nil
}

func modelDone(ahead []api.Seen, sequence []api.Entry, row api.Seen) error {
	if row.Place < 1 || row.Place > len(sequence)+1 {
		return history.ErrGap
	}
	if row.Place <= len(sequence) && sequence[row.Place-1] != row.Entry {
		return history.ErrParted
	}
	if row.Place == len(sequence)+1 {
		if !some(ahead, api.SeenAsked, func(other api.Seen) bool { return other.Entry == row.Entry }) {
			return history.ErrUnasked
		}
		if placeOf(sequence, row.Entry.Client, row.Entry.Number) > 0 {
			return history.ErrAgain
		}
	}
	if some(ahead, api.SeenLead, func(other api.Seen) bool {
		return other.View > row.View && !hasAt(other.Log, row.Place, row.Entry)
	}) {
		return history.ErrLead
	}
	return nil
}

func modelLead(ahead []api.Seen, row api.Seen) error {
	if some(ahead, api.SeenLead, func(other api.Seen) bool { return other.View == row.View }) {
		return history.ErrLogs
	}
	if some(ahead, api.SeenDone, func(other api.Seen) bool {
		return other.View < row.View && !hasAt(row.Log, other.Place, other.Entry)
	}) {
		return history.ErrLead
	}
	return nil
}

func modelTold(ahead []api.Seen, sequence []api.Entry, row api.Seen) error {
	client := row.Entry.Client
	if row.Place < 0 || row.Place > len(sequence) {
		return history.ErrRead
	}
	if some(ahead, api.SeenTold, func(other api.Seen) bool { return other.Entry.Client == client && other.Place > row.Place }) {
		return history.ErrRead
	}
	if some(ahead, api.SeenReply, func(other api.Seen) bool {
		return other.Entry.Client == client && placeOf(sequence, client, other.Entry.Number) > row.Place
	}) {
		return history.ErrRead
	}
	if readingAt(sequence, row.Place, row.Entry.Op) != row.Result {
		return history.ErrRead
	}
	return nil
}

// modelPremises: likewise.
func modelPremises(c api.Config, rows []api.Seen) api.Premise {
	return premise(fewOf(c, rows), freshOf(rows), genuineOf(c, rows))
}

// fewOf: of each node the last of its Downs, Ups and Backs says what it is at.
func fewOf(c api.Config, rows []api.Seen) int {
	for i := range rows {
		away := 0
		for node := range 2*c.F + 1 {
			last := api.SeenBack
			for _, row := range rows[:i+1] {
				if row.Node == node && (row.Kind == api.SeenDown || row.Kind == api.SeenUp || row.Kind == api.SeenBack) {
					last = row.Kind
				}
			}
			if last != api.SeenBack {
				away++
			}
		}
		if away > c.F {
			return i
		}
	}
	return -1
}

func numberOf(d api.Draw) *big.Int {
	n := new(big.Int).SetUint64(d.Hi)
	return n.Add(n.Lsh(n, 64), new(big.Int).SetUint64(d.Lo))
}

func freshOf(rows []api.Seen) int {
	return firstOf(rows, func(i int, row api.Seen) bool {
		return row.Kind == api.SeenUp && (row.Draw == api.Draw{} || some(rows[:i], api.SeenUp, func(other api.Seen) bool {
			return other.Node == row.Node && numberOf(other.Draw).Cmp(numberOf(row.Draw)) >= 0
		}))
	})
}

func genuineOf(c api.Config, rows []api.Seen) int {
	return firstOf(rows, func(i int, row api.Seen) bool {
		if row.Kind != api.SeenTaken {
			return false
		}
		_, e := message.Decode(c, row.Packet.Bytes)
		return e == api.OK && !some(rows[:i], api.SeenSent, func(other api.Seen) bool {
			return other.Packet.To == row.Packet.To && bytes.Equal(other.Packet.Bytes, row.Packet.Bytes)
		})
	})
}

// firstOf: the number of the first row that is so; -1: none is.
func firstOf(rows []api.Seen, is func(int, api.Seen) bool) int {
	for i, row := range rows {
		if is(i, row) {
			return i
		}
	}
	return -1
}
