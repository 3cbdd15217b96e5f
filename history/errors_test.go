package history_test

import (
	"math"
	"slices"
	"testing"

	"amnesia/api"
	"amnesia/history"
)

// P4 of DOC.md: the errors and their order.

// kinds: of each the name's number, and whether it uses Node.
var kinds = []struct {
	kind api.SeenKind
	node bool
}{
	{1, false}, {2, false}, {3, false}, {4, true}, {5, true}, {6, false}, {7, true}, {8, true}, {9, true}, {10, true},
}

var noKinds = []api.SeenKind{math.MinInt, -1 << 32, -1, 0, 11, 12, 1<<8 + 1, 1<<32 + 4, math.MaxInt}

func expectRefusedPremises(t *testing.T, c api.Config, rows []api.Seen, want api.Errno) {
	t.Helper()
	if got, e := history.Premises(c, rows); e != want || got != (api.Premise{}) {
		t.Fatalf("%+v, %d, want %d: %+v, %+v", got, e, want, c, rows)
	}
}

// expectRow: whether a row may be, wherever it stands.
func expectRow(t *testing.T, c api.Config, row api.Seen, mayBe bool) {
	t.Helper()
	fault := []api.Seen{asked(eE), done(0, 0, 1, eE), done(1, 0, 1, eG)}
	for place := range len(fault) + 1 {
		rows := slices.Insert(slices.Clone(fault), place, row)
		if mayBe {
			if _, e := history.Judge(setupOf(c, 1), rows); e != api.OK {
				t.Fatalf("%d: %+v", e, row)
			}
			if _, e := history.Premises(c, rows); e != api.OK {
				t.Fatalf("%d: %+v", e, row)
			}
			continue
		}
		expectRefused(t, setupOf(c, 1), rows, api.ErrRow)
		expectRefusedPremises(t, c, rows, api.ErrRow)
	}
}

func TestRowsThatMayBe(t *testing.T) {
	for _, c := range configs() {
		n := 2*c.F + 1
		for _, k := range kinds {
			for _, node := range []int{0, 1, n - 1, n, n + 1, 6, -1} {
				expectRow(t, c, api.Seen{Kind: k.kind, Node: node}, !k.node || node >= 0 && node < n)
			}
			for _, node := range farNumbers {
				expectRow(t, c, api.Seen{Kind: k.kind, Node: node}, !k.node)
			}
		}
		for _, kind := range noKinds {
			expectRow(t, c, api.Seen{Kind: kind}, false)
		}
		for kind := api.SeenKind(-300); kind < 300; kind++ {
			expectRow(t, c, api.Seen{Kind: kind}, kind >= 1 && kind <= 10)
		}
	}
}

// No other field is asked, whatever stands there.
func TestAnyOtherFieldMayBe(t *testing.T) {
	for _, k := range kinds {
		for _, n := range farNumbers {
			row := api.Seen{Kind: k.kind, Event: n, View: n, Place: n, Entry: entry(n, n, api.Op{Kind: n, Slot: n}), Result: res(n, n, ""),
				Log: []api.Entry{entry(n, n, api.Op{})}, Packet: api.Packet{From: n, To: n, Bytes: []byte("x")}}
			expectRow(t, three, row, true)
		}
	}
}

func TestConfigsThatMayNotBe(t *testing.T) {
	wrongRow, tooMany := []api.Seen{{}}, make([]api.ClientSetup, 17)
	for _, c := range wrongConfigs() {
		for _, rows := range [][]api.Seen{nil, {asked(eE)}, wrongRow} {
			expectRefusedPremises(t, c, rows, api.ErrConfig)
			expectRefused(t, api.Setup{Config: c}, rows, api.ErrConfig)
			expectRefused(t, api.Setup{Config: c, Clients: tooMany}, rows, api.ErrConfig)
		}
	}
}

func TestSetupsThatMayNotBe(t *testing.T) {
	numbers := func(l ...int) []api.ClientSetup {
		var clients []api.ClientSetup
		for _, n := range l {
			clients = append(clients, api.ClientSetup{Number: n})
		}
		return clients
	}
	greatest := api.MaxNumber
	for _, x := range []struct {
		clients []api.ClientSetup
		want    api.Errno
	}{
		{nil, api.OK}, {numbers(), api.OK}, {numbers(0), api.OK}, {numbers(api.MaxNumber), api.OK}, {numbers(0, 5, api.MaxNumber, 1), api.OK},
		{make([]api.ClientSetup, 16), api.OK}, {make([]api.ClientSetup, 17), api.ErrSetup}, {make([]api.ClientSetup, 1000), api.ErrSetup},
		{numbers(-1), api.ErrSetup}, {numbers(math.MinInt), api.ErrSetup}, {numbers(greatest + 1), api.ErrSetup}, // which is the least number
		{numbers(0, 0, -1), api.ErrSetup}, {numbers(-1, 0, 0), api.ErrSetup}, {numbers(0, -7, 0), api.ErrSetup},
	} {
		s := api.Setup{Config: three, Clients: x.clients}
		if x.want == api.OK {
			expect(t, s, askedAll(0, eE), -1, nil, eE)
			expectRefused(t, s, []api.Seen{{}}, api.ErrRow)
			continue
		}
		expectRefused(t, s, nil, x.want)
		expectRefused(t, s, askedAll(0, eE), x.want)
		expectRefused(t, s, []api.Seen{{}}, x.want)
	}
}

// Who the clients are is asked of the setup alone: rows may tell of any.
func TestClientsThatTheSetupHasNot(t *testing.T) {
	for _, client := range farNumbers {
		e := entry(client, client, write(1, "a"))
		rows := append(askedAll(0, e), reply(client, client, res(api.ResWritten, 1, "a")), toldOf(client, 1, count, res(api.ResCount, 1, "")))
		expect(t, api.Setup{Config: three}, rows, -1, nil, e)
	}
}

// P3 of DOC.md.
func TestNoRows(t *testing.T) {
	for _, c := range configs() {
		for _, rows := range [][]api.Seen{nil, {}} {
			expect(t, api.Setup{Config: c}, rows, -1, nil)
			expect(t, api.Setup{Config: c, Clients: []api.ClientSetup{}}, rows, -1, nil)
			expectPremises(t, c, rows, premise(-1, -1, -1))
		}
	}
}
