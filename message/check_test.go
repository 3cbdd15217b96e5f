package message_test

import (
	"math"
	"math/rand/v2"
	"strings"
	"testing"

	"amnesia/api"
	"amnesia/message"
)

// P7.1: Check. (Encode is asked beside it: it has the same errors.)

// Examples 1 to 5.
func TestCheckExamples(t *testing.T) {
	v := make(api.Vector, 3)
	e := entry(1, 2, write(7, "a"))
	expectCheck(t, small, api.Msg{Kind: api.KindRequest, Entry: e}, api.OK)
	expectCheck(t, small, api.Msg{Kind: api.KindCommit, Node: 1, Vector: v}, api.ErrField)
	expectCheck(t, small, api.Msg{Kind: api.KindCommit, Node: 0, Vector: v}, api.OK)
	expectCheck(t, small, api.Msg{Kind: api.KindDoViewChange, View: 3, Last: 3, Vector: v}, api.ErrField)
	expectCheck(t, small, api.Msg{Kind: api.KindDoViewChange, View: 3, Last: 2, Vector: v}, api.OK)
	response := api.Msg{Kind: api.KindRecoveryResponse, Node: 1, Draw: api.Draw{Lo: 1}, Vector: v}
	expectCheck(t, small, response, api.OK)
	response.Log = []api.Entry{e}
	expectCheck(t, small, response, api.ErrField)
	expectCheck(t, small, api.Msg{Kind: api.KindPrepareOK, Node: 1, Vector: v}, api.OK)
	expectCheck(t, small, api.Msg{Kind: api.KindPrepareOK, Node: 1, Entry: e, Vector: v}, api.ErrField)
}

// Each kind with something in all columns that it uses, and with as little as it may have.
func TestCheckEachKind(t *testing.T) {
	for _, c := range configs() {
		for _, k := range allKinds() {
			expectCheck(t, c, good(c, k), api.OK)
		}
	}
	v, name := make(api.Vector, 3), entry(0, 1, api.Op{})
	lived := api.Vector{{Lo: 1}, {}, {}}
	for _, m := range []api.Msg{
		{Kind: api.KindRequest, Entry: entry(0, 1, write(0, ""))},
		{Kind: api.KindReply, Entry: name, Result: res(api.ResRefused, 0, "")},
		{Kind: api.KindPrepare, Place: 1, Entry: entry(0, 1, write(0, "")), Vector: v},
		{Kind: api.KindPrepareOK, Vector: v},
		{Kind: api.KindCommit, Vector: v},
		{Kind: api.KindStartViewChange, View: 1, Vector: v},
		{Kind: api.KindDoViewChange, View: 1, Vector: v},
		{Kind: api.KindStartView, Node: 1, View: 1, Vector: v},
		{Kind: api.KindRecovery, Draw: api.Draw{Lo: 1}, Vector: lived},
		{Kind: api.KindRecoveryResponse, Draw: api.Draw{Lo: 1}, Vector: v},
		{Kind: api.KindGetState, Vector: v},
		{Kind: api.KindNewState, Vector: v},
		{Kind: api.KindQuery, Entry: entry(0, 1, read(0))},
		{Kind: api.KindTold, Entry: name, Result: res(api.ResNone, 0, "")},
	} {
		expectCheck(t, small, m, api.OK)
		m.Log = []api.Entry{} // empty is nil
		expectCheck(t, small, m, api.OK)
		if m.Vector == nil {
			m.Vector = api.Vector{}
			expectCheck(t, small, m, api.OK)
		}
	}
}

// ErrConfig comes first, then ErrKind, then ErrField.
func TestCheckConfig(t *testing.T) {
	for _, k := range append(allKinds(), 0, 15, -1) {
		want := api.OK
		if layout(k) == "" {
			want = api.ErrKind
		}
		for _, x := range append([]int{0, 4, 5, 7}, wild...) {
			expectCheck(t, api.Config{F: x, Room: 4, Patience: 6}, good(small, k), api.ErrConfig)
			expectCheck(t, api.Config{F: x, Room: 4, Patience: 6}, api.Msg{Kind: k, Node: -1}, api.ErrConfig)
		}
		for _, x := range append([]int{0, 257, 258}, wild...) {
			expectCheck(t, api.Config{F: 1, Room: x, Patience: 6}, good(small, k), api.ErrConfig)
			expectCheck(t, api.Config{F: 1, Room: x, Patience: 6}, api.Msg{Kind: k, Node: -1}, api.ErrConfig)
		}
		for _, x := range append([]int{0, 1, 5, 101, 102}, wild...) {
			expectCheck(t, api.Config{F: 1, Room: 4, Patience: x}, good(small, k), api.ErrConfig)
			expectCheck(t, api.Config{F: 1, Room: 4, Patience: x}, api.Msg{Kind: k, Node: -1}, api.ErrConfig)
		}
		for f := 1; f <= 3; f++ {
			for _, room := range []int{1, 2, 255, 256} {
				for _, patience := range []int{6, 7, 99, 100} {
					for _, unguarded := range []bool{false, true} {
						c := api.Config{F: f, Room: room, Patience: patience, Unguarded: unguarded}
						expectCheck(t, c, good(c, k), want)
					}
				}
			}
		}
	}
	expectCheck(t, api.Config{}, api.Msg{}, api.ErrConfig)
}

func TestCheckKind(t *testing.T) {
	for _, k := range append([]int{0, 15, 16, 17, 1<<32 + 1, 1<<8 + 1}, wild...) {
		expectCheck(t, small, api.Msg{Kind: api.Kind(k)}, api.ErrKind)
		for _, other := range allKinds() {
			m := good(small, other)
			m.Kind = api.Kind(k)
			expectCheck(t, small, m, api.ErrKind)
			m.Node, m.View, m.Log = -1, math.MaxInt, make([]api.Entry, 9)
			expectCheck(t, small, m, api.ErrKind)
		}
	}
}

// A kind's message is none of another kind, unless both use the same.
func TestCheckKindsApart(t *testing.T) {
	for _, k := range allKinds() {
		for _, other := range allKinds() {
			m := good(small, k)
			m.Kind = other
			expectCheck(t, small, m, wantCheck(small, m))
		}
	}
}

// A column that the kind does not use, with anything in it.
func TestCheckUnusedFields(t *testing.T) {
	breaks := map[string][]func(*api.Msg){
		"E": {
			func(m *api.Msg) { m.Entry = entry(1, 2, write(7, "a")) },
			func(m *api.Msg) { m.Entry.Client = 1 }, func(m *api.Msg) { m.Entry.Number = 1 },
			func(m *api.Msg) { m.Entry.Op.Kind = 1 }, func(m *api.Msg) { m.Entry.Op.Slot = 1 }, func(m *api.Msg) { m.Entry.Op.Value = "v" },
		},
		"R": {
			func(m *api.Msg) { m.Result = res(api.ResFound, 7, "a") },
			func(m *api.Msg) { m.Result.Code = 7 }, func(m *api.Msg) { m.Result.Slot = 1 }, func(m *api.Msg) { m.Result.Value = "v" },
		},
		"D": {func(m *api.Msg) { m.Draw.Hi = 1 }, func(m *api.Msg) { m.Draw.Lo = 1 }, func(m *api.Msg) { m.Draw.Hi = math.MaxUint64 }},
		"G": {func(m *api.Msg) { m.Log = make([]api.Entry, 1) }, func(m *api.Msg) { m.Log = logOf(1) }, func(m *api.Msg) { m.Log = logOf(300) }},
		"X": {func(m *api.Msg) { m.Vector = make(api.Vector, 1) }, func(m *api.Msg) { m.Vector = make(api.Vector, 3) }, func(m *api.Msg) { m.Vector = vectorOf(small) }},
	}
	for _, x := range append([]int{1, 2, 3, 4, 1 << 32}, wild...) {
		breaks["N"] = append(breaks["N"], func(m *api.Msg) { m.Node = x })
		breaks["V"] = append(breaks["V"], func(m *api.Msg) { m.View = x })
		breaks["B"] = append(breaks["B"], func(m *api.Msg) { m.Last = x })
		breaks["P"] = append(breaks["P"], func(m *api.Msg) { m.Place = x })
		breaks["C"] = append(breaks["C"], func(m *api.Msg) { m.Commit = x })
	}
	for _, k := range allKinds() {
		for letter, l := range breaks {
			if strings.Contains(strings.ToUpper(layout(k)), letter) {
				continue
			}
			for _, change := range l {
				m := good(small, k)
				change(&m)
				expectCheck(t, small, m, api.ErrField)
			}
		}
	}
}

func primaryLaid(k api.Kind) bool {
	return k == api.KindPrepare || k == api.KindCommit || k == api.KindStartView
}

func TestCheckNode(t *testing.T) {
	for _, c := range configs() {
		n := 2*c.F + 1
		for _, k := range allKinds() {
			if !uses(k, "N") {
				continue
			}
			for _, node := range append([]int{0, 1, 2, n - 1, n, n + 1, n + 2, 2*n + 1}, wild...) {
				m := good(c, k)
				m.Node = node
				right := node >= 0 && node < n
				switch {
				case primaryLaid(k):
					right = node == 1
				case k == api.KindRecovery && right:
					m.Vector[node] = m.Draw
				case k == api.KindRecoveryResponse && node != 1:
					m.Log, m.Commit = nil, 0
				}
				expectMade(t, c, m, right)
			}
		}
	}
}

// The primary of a view, and no other, sends Prepare, Commit and StartView, and has a log in a RecoveryResponse.
func TestCheckPrimary(t *testing.T) {
	for _, c := range configs() {
		n := 2*c.F + 1
		for _, view := range []int{1, 2, 3, n - 1, n, n + 1, 7 * n, 1<<31 - 1, 1 << 31, 1<<32 - 1, 1 << 32} {
			for node := range n {
				for _, k := range []api.Kind{api.KindPrepare, api.KindCommit, api.KindStartView, api.KindRecoveryResponse} {
					m := good(c, k)
					m.Node, m.View = node, view
					expectMade(t, c, m, node == view%n)
				}
			}
		}
	}
}

func TestCheckView(t *testing.T) {
	for _, c := range configs() {
		n := 2*c.F + 1
		for _, k := range allKinds() {
			if !uses(k, "V") {
				continue
			}
			least := 0
			if k == api.KindStartViewChange || k == api.KindDoViewChange || k == api.KindStartView {
				least = 1
			}
			for _, view := range append([]int{0, 1, 2, n, 1<<32 - 1, 1 << 32, 1<<32 + 1, 1<<32 + n}, wild...) {
				m := good(c, k)
				m.View, m.Last = view, 0
				if primaryLaid(k) || k == api.KindRecoveryResponse {
					m.Node = view % n
				}
				expectMade(t, c, m, view >= least && view <= 1<<32)
			}
		}
	}
}

func TestCheckLast(t *testing.T) {
	for _, view := range []int{1, 2, 5, 1<<32 - 1, 1 << 32} {
		for _, last := range append([]int{0, 1, view - 1, view, view + 1}, wild...) {
			m := good(small, api.KindDoViewChange)
			m.View, m.Last = view, last
			expectMade(t, small, m, last >= 0 && last < view)
		}
	}
}

func TestCheckPlace(t *testing.T) {
	for _, c := range configs() {
		for _, place := range append([]int{0, 1, c.Room - 1, c.Room, c.Room + 1, 256, 257}, wild...) {
			inside := place >= 0 && place <= c.Room
			for _, k := range []api.Kind{api.KindPrepareOK, api.KindQuery, api.KindPrepare} {
				m := good(c, k)
				m.Place = place
				expectMade(t, c, m, inside && (place > 0 || k != api.KindPrepare))
			}
			m := good(c, api.KindReply)
			m.Place = place
			for _, r := range []api.Result{res(api.ResWritten, 1, "a"), res(api.ResTaken, 1, "a"), res(api.ResFull, 0, ""), res(api.ResFound, 1, "a"), res(api.ResNone, 1, ""), res(api.ResCount, 1, "")} {
				m.Result = r
				expectMade(t, c, m, inside && place > 0)
			}
			m.Result = res(api.ResRefused, 0, "")
			expectMade(t, c, m, place == 0)
		}
	}
}

func TestCheckCommit(t *testing.T) {
	for _, c := range configs() {
		for _, k := range allKinds() {
			if !uses(k, "C") {
				continue
			}
			for _, length := range []int{0, 1, c.Room - 1, c.Room} {
				most := c.Room
				m := good(c, k)
				if uses(k, "G") {
					m.Log, most = logOf(length), length
				}
				for _, commit := range append([]int{0, 1, most - 1, most, most + 1, c.Room, c.Room + 1, 256, 257}, wild...) {
					m.Commit = commit
					expectMade(t, c, m, commit >= 0 && commit <= most)
				}
			}
		}
	}
}

func TestCheckDraw(t *testing.T) {
	draws := []api.Draw{{}, {Lo: 1}, {Hi: 1}, {Hi: 1, Lo: 1}, {Hi: math.MaxUint64, Lo: math.MaxUint64}, {Lo: math.MaxUint64}, {Hi: 1 << 63}}
	for _, d := range draws {
		m := good(small, api.KindRecoveryResponse)
		m.Draw = d
		expectMade(t, small, m, d != api.Draw{})
		for _, own := range draws {
			for node := range 3 {
				m := good(small, api.KindRecovery)
				m.Node, m.Draw = node, d
				m.Vector = api.Vector{{Hi: 9}, {Hi: 9}, {Hi: 9}}
				m.Vector[node] = own
				expectMade(t, small, m, d == own && d != api.Draw{})
				m.Vector[node] = api.Draw{Hi: 9}
				m.Vector[(node+1)%3] = d // another's entry does not serve
				expectCheck(t, small, m, api.ErrField)
			}
		}
	}
}

func wholeKinds() []api.Kind { return []api.Kind{api.KindRequest, api.KindPrepare, api.KindQuery} }

func TestCheckEntry(t *testing.T) {
	for _, k := range append(wholeKinds(), api.KindReply, api.KindTold) {
		for _, x := range append([]int{0, 1, 14, 15, 16, 17}, wild...) {
			m := good(small, k)
			m.Entry.Client = x
			expectMade(t, small, m, x >= 0 && x <= 15)
		}
		for _, x := range append([]int{0, 1, 2, 1 << 32}, wild...) {
			m := good(small, k)
			m.Entry.Number = x
			expectMade(t, small, m, x >= 1)
		}
		m := good(small, k)
		m.Entry = api.Entry{}
		expectCheck(t, small, m, api.ErrField)
	}
	for _, k := range []api.Kind{api.KindReply, api.KindTold} { // Client and Number alone
		for _, op := range []api.Op{{Kind: 1}, {Slot: 1}, {Slot: -1}, {Value: "v"}, write(7, "a"), read(7), {Kind: api.OpCount}} {
			m := good(small, k)
			m.Entry.Op = op
			expectCheck(t, small, m, api.ErrField)
		}
	}
}

func TestCheckOp(t *testing.T) {
	long := longest + "v"
	for _, k := range wholeKinds() {
		query := k == api.KindQuery
		for _, x := range []struct {
			op      api.Op
			right   bool
			reading bool
		}{
			{write(0, ""), true, false}, {write(1023, longest), true, false}, {write(-1, ""), false, false}, {write(1024, ""), false, false}, {write(0, long), false, false},
			{api.Op{Kind: api.OpAppend}, true, false}, {api.Op{Kind: api.OpAppend, Value: longest}, true, false}, {api.Op{Kind: api.OpAppend, Slot: 1}, false, false}, {api.Op{Kind: api.OpAppend, Value: long}, false, false},
			{read(0), true, true}, {read(1023), true, true}, {read(-1), false, true}, {read(1024), false, true}, {api.Op{Kind: api.OpRead, Value: "v"}, false, true},
			{api.Op{Kind: api.OpCount}, true, true}, {api.Op{Kind: api.OpCount, Slot: 1}, false, true}, {api.Op{Kind: api.OpCount, Value: "v"}, false, true},
			{api.Op{}, false, false}, {api.Op{Kind: 5}, false, true}, {api.Op{Kind: -1}, false, false}, {api.Op{Kind: math.MaxInt}, false, true},
		} {
			m := good(small, k)
			m.Entry.Op = x.op
			expectMade(t, small, m, x.right && (x.reading || !query))
		}
	}
}

// Every Code, with slots and values at their edges.
func TestCheckResult(t *testing.T) {
	values := []string{"", "v", longest[1:], longest, longest + "v", strings.Repeat("v", 4000)}
	for _, code := range append([]int{0, 1, 2, 3, 4, 5, 6, 7, 8, 9, 1<<32 + 1}, wild...) {
		for _, slot := range append([]int{0, 1, 1022, 1023, 1024, 1025}, wild...) {
			for _, value := range values {
				slotted := slot >= 0 && slot <= 1023
				right := false
				switch code {
				case api.ResWritten, api.ResTaken, api.ResFound:
					right = slotted && len(value) <= 64
				case api.ResNone:
					right = slotted && value == ""
				case api.ResCount:
					right = (slotted || slot == 1024) && value == ""
				case api.ResFull, api.ResRefused:
					right = slot == 0 && value == ""
				}
				m := good(small, api.KindReply)
				m.Result = res(code, slot, value)
				if code == api.ResRefused {
					m.Place = 0
				}
				expectMade(t, small, m, right)
				m = good(small, api.KindTold)
				m.Result = res(code, slot, value)
				expectMade(t, small, m, right && (code == api.ResFound || code == api.ResNone || code == api.ResCount))
			}
		}
	}
}

func logKinds() []api.Kind {
	return []api.Kind{api.KindDoViewChange, api.KindStartView, api.KindRecoveryResponse, api.KindNewState}
}

func TestCheckLog(t *testing.T) {
	for _, c := range configs() {
		for _, k := range logKinds() {
			m := good(c, k)
			m.Commit = 0
			for _, length := range []int{0, 1, c.Room - 1, c.Room, c.Room + 1, 256, 257, 1000} {
				m.Log = logOf(length)
				expectMade(t, c, m, length <= c.Room)
			}
		}
	}
	w := write(1, "a")
	for _, k := range logKinds() {
		m := good(small, k)
		m.Commit = 0
		for _, x := range []struct {
			log   []api.Entry
			right bool
		}{
			{[]api.Entry{entry(0, 1, w), entry(1, 1, w), entry(0, 2, w)}, true},
			{[]api.Entry{entry(0, math.MaxInt-1, w), entry(0, math.MaxInt, w)}, true},
			{[]api.Entry{entry(0, 1, w), entry(1, 1, w), entry(0, 1, w)}, false},
			{[]api.Entry{entry(0, 2, w), entry(0, 1, w)}, false},
			{[]api.Entry{entry(0, 1, w), entry(16, 1, w)}, false},
			{[]api.Entry{entry(0, 1, w), entry(-1, 1, w)}, false},
			{[]api.Entry{entry(0, 1, w), entry(1, 0, w)}, false},
			{[]api.Entry{entry(0, 1, w), entry(1, 1, api.Op{})}, false},
			{[]api.Entry{entry(0, 1, w), entry(1, 1, write(1024, "a"))}, false},
			{[]api.Entry{entry(0, 1, w), entry(1, 1, write(1, longest+"v"))}, false},
			{make([]api.Entry, 1), false},
		} {
			m.Log = x.log
			expectMade(t, small, m, x.right)
		}
	}
}

func TestCheckVector(t *testing.T) {
	for _, c := range configs() {
		n := 2*c.F + 1
		for _, k := range allKinds() {
			if !uses(k, "X") {
				continue
			}
			m := good(c, k)
			all := append(append(api.Vector{}, m.Vector...), make(api.Vector, 9)...)
			for length := range all {
				m.Vector = all[:length]
				expectMade(t, c, m, length == n)
			}
			m.Vector = nil
			expectCheck(t, c, m, api.ErrField)
		}
	}
	for _, k := range allKinds() { // any draws
		m := good(small, k)
		for i := range m.Vector {
			m.Vector[i] = api.Draw{Hi: math.MaxUint64, Lo: math.MaxUint64}
		}
		if k == api.KindRecovery {
			m.Draw = m.Vector[0]
		}
		expectCheck(t, small, m, api.OK)
	}
}

// Messages of all kinds with some fields turned are told as the table tells them.
func TestCheckAgainstTable(t *testing.T) {
	r := rand.New(rand.NewPCG(7, 1))
	met := map[api.Errno]int{}
	made := map[api.Kind]int{}
	for range 60000 {
		c := pick(r, configs()...)
		m := someMsg(r, c, pick(r, allKinds()...))
		for range r.IntN(3) {
			m = spoilt(r, c, m)
		}
		switch r.IntN(40) {
		case 0:
			c.F = r.IntN(6) - 1
		case 1:
			c.Room = pick(r, 0, 1, 256, 257)
		case 2:
			c.Patience = pick(r, 5, 6, 100, 101)
		}
		want := wantCheck(c, m)
		expectCheck(t, c, m, want)
		met[want]++
		if want == api.OK {
			made[m.Kind]++
		}
	}
	for _, e := range []api.Errno{api.OK, api.ErrConfig, api.ErrKind, api.ErrField} {
		if met[e] < 500 {
			t.Errorf("error %d was met %d times", e, met[e])
		}
	}
	for _, k := range allKinds() {
		if made[k] < 500 {
			t.Errorf("kind %d was made %d times", k, made[k])
		}
	}
}

// P7.1: Between.

func TestBetween(t *testing.T) {
	want := map[api.Kind]bool{
		api.KindRequest: false, api.KindReply: false, api.KindPrepare: true, api.KindPrepareOK: true, api.KindCommit: true,
		api.KindStartViewChange: true, api.KindDoViewChange: true, api.KindStartView: true, api.KindRecovery: true,
		api.KindRecoveryResponse: true, api.KindGetState: true, api.KindNewState: true, api.KindQuery: false, api.KindTold: false,
	}
	for k, b := range want {
		if message.Between(k) != b {
			t.Errorf("Between(%d) is %v", k, !b)
		}
	}
	for _, k := range append([]int{0, 15, 16, 17, 100, 256, 1<<8 + 3, 1<<32 + 3, 1 << 62}, wild...) {
		if message.Between(api.Kind(k)) {
			t.Errorf("Between(%d), which is no kind", k)
		}
	}
}
