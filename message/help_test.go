package message_test

import (
	"encoding/binary"
	"hash/crc32"
	"math"
	"math/big"
	"math/rand/v2"
	"reflect"
	"strings"
	"testing"

	"amnesia/api"
	"amnesia/client"
	"amnesia/ledger"
	"amnesia/message"
)

// The chapter's configuration.
var small = api.Config{F: 1, Room: 4, Patience: 6}

func configs() []api.Config {
	return []api.Config{small, {F: 1, Room: 1, Patience: 100}, {F: 2, Room: 9, Patience: 50, Unguarded: true}, {F: 3, Room: 256, Patience: 6}}
}

// Numbers that are far from all that a field may be; some of them may be, modulo a power of two.
var wild = []int{math.MinInt, math.MinInt + 1, -1 << 33, -1 << 32, -256, -8, -2, -1, 1 << 33, 1<<33 + 1, 1 << 40, math.MaxInt - 1, math.MaxInt}

var longest = strings.Repeat("\xff", 64)

func write(slot int, value string) api.Op {
	return api.Op{Kind: api.OpWrite, Slot: slot, Value: value}
}

func read(slot int) api.Op { return api.Op{Kind: api.OpRead, Slot: slot} }

func entry(client, number int, op api.Op) api.Entry {
	return api.Entry{Client: client, Number: number, Op: op}
}

func res(code, slot int, value string) api.Result {
	return api.Result{Code: code, Slot: slot, Value: value}
}

// A crash vector of a group, with entries of all sizes.
func vectorOf(c api.Config) api.Vector {
	v := make(api.Vector, 2*c.F+1)
	for i := range v {
		v[i] = api.Draw{Hi: uint64(i) << (9 * i), Lo: math.MaxUint64 >> (9 * i)}
	}
	return v
}

// A log of so many entries, all clients by turns.
func logOf(n int) []api.Entry {
	var l []api.Entry
	ops := []api.Op{write(7, "a"), {Kind: api.OpAppend, Value: "bc"}, read(1023), {Kind: api.OpCount}, write(300, longest)}
	for i := range n {
		l = append(l, entry(i%16, i+1, ops[i%len(ops)]))
	}
	return l
}

func allKinds() []api.Kind {
	var l []api.Kind
	for k := api.KindRequest; k <= api.KindTold; k++ {
		l = append(l, k)
	}
	return l
}

// What each kind uses, a letter a column in their order: Node, View, Last (B), Place, Commit, Draw, Entry (e: its Client and Number alone), Result, Log (G), Vector (X). No kind: none.
func layout(k api.Kind) string {
	switch k {
	case api.KindRequest:
		return "E"
	case api.KindReply:
		return "NVPeR"
	case api.KindPrepare:
		return "NVPCEX"
	case api.KindPrepareOK:
		return "NVPX"
	case api.KindCommit:
		return "NVCX"
	case api.KindStartViewChange, api.KindGetState:
		return "NVX"
	case api.KindDoViewChange:
		return "NVBCGX"
	case api.KindStartView, api.KindNewState:
		return "NVCGX"
	case api.KindRecovery:
		return "NDX"
	case api.KindRecoveryResponse:
		return "NVCDGX"
	case api.KindQuery:
		return "PE"
	case api.KindTold:
		return "NVCeR"
	}
	return ""
}

func uses(k api.Kind, letter string) bool { return strings.Contains(layout(k), letter) }

// A message of the kind that may be, with something in every column that it uses. Its node is the primary of its view where both are used.
func good(c api.Config, k api.Kind) api.Msg {
	full := api.Msg{
		Node: 1, View: 2*c.F + 2, Last: 2, Place: c.Room, Commit: 1, Draw: api.Draw{Lo: 5},
		Entry: entry(1, 2, read(7)), Result: res(api.ResFound, 7, "a"), Log: logOf(c.Room), Vector: vectorOf(c),
	}
	m := stripped(full, k)
	if k == api.KindRecovery {
		m.Draw = m.Vector[1]
	}
	return m
}

// stripped: the message as one of the kind, without what that kind does not use.
func stripped(m api.Msg, k api.Kind) api.Msg {
	s := api.Msg{Kind: k}
	for _, letter := range layout(k) {
		switch letter {
		case 'N':
			s.Node = m.Node
		case 'V':
			s.View = m.View
		case 'B':
			s.Last = m.Last
		case 'P':
			s.Place = m.Place
		case 'C':
			s.Commit = m.Commit
		case 'D':
			s.Draw = m.Draw
		case 'E':
			s.Entry = m.Entry
		case 'e':
			s.Entry = api.Entry{Client: m.Entry.Client, Number: m.Entry.Number}
		case 'R':
			s.Result = m.Result
		case 'G':
			s.Log = m.Log
		case 'X':
			s.Vector = m.Vector
		}
	}
	return s
}

// plain: the message with nil for empty lists, so that it can be compared whole.
func plain(m api.Msg) api.Msg {
	if len(m.Log) == 0 {
		m.Log = nil
	}
	if len(m.Vector) == 0 {
		m.Vector = nil
	}
	return m
}

func same(a, b api.Msg) bool { return reflect.DeepEqual(plain(a), plain(b)) }

// wantCheck is the chapter's table in another way: kind by kind.
func wantCheck(c api.Config, m api.Msg) api.Errno {
	switch {
	case c.F != 1 && c.F != 2 && c.F != 3 || c.Room <= 0 || c.Room > 256 || c.Patience < 6 || c.Patience > 100:
		return api.ErrConfig
	case layout(m.Kind) == "":
		return api.ErrKind
	case !same(m, stripped(m, m.Kind)) || !wantRight(c, m):
		return api.ErrField
	}
	return api.OK
}

func wantRight(c api.Config, m api.Msg) bool {
	n := 2*c.F + 1
	node := m.Node >= 0 && m.Node < n
	view := m.View >= 0 && m.View <= 4294967296
	lead := node && view && m.View%n == m.Node
	room := m.Commit >= 0 && m.Commit <= c.Room
	place := m.Place >= 0 && m.Place <= c.Room
	all := len(m.Vector) == n
	log := wantLog(m.Log, c.Room) && m.Commit >= 0 && m.Commit <= len(m.Log)
	switch m.Kind {
	case api.KindRequest:
		return wantEntry(m.Entry)
	case api.KindReply:
		return node && view && place && (m.Place == 0) == (m.Result.Code == 7) && wantName(m.Entry) && wantResult(m.Result)
	case api.KindPrepare:
		return lead && place && m.Place > 0 && room && wantEntry(m.Entry) && all
	case api.KindPrepareOK:
		return node && view && place && all
	case api.KindCommit:
		return lead && room && all
	case api.KindStartViewChange:
		return node && view && m.View > 0 && all
	case api.KindDoViewChange:
		return node && view && m.Last >= 0 && m.View > m.Last && log && all
	case api.KindStartView:
		return lead && m.View > 0 && log && all
	case api.KindRecovery:
		return node && all && m.Draw == m.Vector[m.Node] && m.Draw != api.Draw{}
	case api.KindRecoveryResponse:
		return node && view && log && m.Draw != api.Draw{} && (lead || len(m.Log) == 0) && all
	case api.KindGetState:
		return node && view && all
	case api.KindNewState:
		return node && view && log && all
	case api.KindQuery:
		return place && wantEntry(m.Entry) && m.Entry.Op.Kind >= 3
	}
	return node && view && room && wantName(m.Entry) && wantResult(m.Result) && m.Result.Code >= 4 && m.Result.Code <= 6
}

func wantName(e api.Entry) bool {
	return e.Client >= 0 && e.Client < 16 && e.Number > 0 && e.Op == api.Op{}
}

func wantEntry(e api.Entry) bool {
	return wantName(api.Entry{Client: e.Client, Number: e.Number}) && ledger.Check(e.Op) == api.OK
}

func wantLog(l []api.Entry, room int) bool {
	_, e := client.Table(l, 0)
	return len(l) <= room && e == api.OK
}

func wantResult(r api.Result) bool {
	mostSlot := []int{-1, 1023, 1023, 0, 1023, 1023, 1024, 0}
	mostBytes := []int{-1, 64, 64, 0, 64, 0, 0, 0}
	return r.Code >= 0 && r.Code < 8 && r.Slot >= 0 && r.Slot <= mostSlot[r.Code] && len(r.Value) <= mostBytes[r.Code]
}

// num: a number's one form, by hand.
func num(v uint64) []byte {
	b := new(big.Int).SetUint64(v).Bytes()
	return append([]byte{byte(len(b))}, b...)
}

// nums: several numbers, one behind the other.
func nums(l ...int) []byte {
	var b []byte
	for _, v := range l {
		b = append(b, num(uint64(v))...)
	}
	return b
}

func text(s string) []byte { return append(nums(len(s)), s...) }

func drawBytes(d api.Draw) []byte { return append(num(d.Hi), num(d.Lo)...) }

func entryBytes(e api.Entry) []byte {
	return append(nums(e.Client, e.Number, e.Op.Kind, e.Op.Slot), text(e.Op.Value)...)
}

// wantBody lays a message that may be down, by hand.
func wantBody(m api.Msg) []byte {
	b := nums(int(m.Kind))
	for _, letter := range layout(m.Kind) {
		switch letter {
		case 'N':
			b = append(b, nums(m.Node)...)
		case 'V':
			b = append(b, nums(m.View)...)
		case 'B':
			b = append(b, nums(m.Last)...)
		case 'P':
			b = append(b, nums(m.Place)...)
		case 'C':
			b = append(b, nums(m.Commit)...)
		case 'D':
			b = append(b, drawBytes(m.Draw)...)
		case 'E':
			b = append(b, entryBytes(m.Entry)...)
		case 'e':
			b = append(b, nums(m.Entry.Client, m.Entry.Number)...)
		case 'R':
			b = append(append(b, nums(m.Result.Code, m.Result.Slot)...), text(m.Result.Value)...)
		case 'G':
			b = append(b, nums(len(m.Log))...)
			for _, e := range m.Log {
				b = append(b, entryBytes(e)...)
			}
		case 'X':
			b = append(b, nums(len(m.Vector))...)
			for _, d := range m.Vector {
				b = append(b, drawBytes(d)...)
			}
		}
	}
	return b
}

// frameOf: a body's frame, by hand.
func frameOf(body []byte) []byte {
	f := binary.BigEndian.AppendUint32([]byte("amn1"), uint32(len(body)))
	f = append(f, body...)
	return binary.LittleEndian.AppendUint32(f, crc32.ChecksumIEEE(f))
}

// walk reads a body in another way than the program: what is left, and the first error.
type walk struct {
	b []byte
	e api.Errno
}

func (w *walk) fail(e api.Errno) uint64 {
	if w.e == api.OK {
		w.e = e
	}
	return 0
}

func (w *walk) num(most uint64) uint64 {
	switch {
	case w.e != api.OK:
		return 0
	case len(w.b) == 0:
		return w.fail(api.ErrShort)
	case w.b[0] > 8:
		return w.fail(api.ErrForm)
	case len(w.b)-1 < int(w.b[0]):
		return w.fail(api.ErrShort)
	case w.b[0] > 0 && w.b[1] == 0:
		return w.fail(api.ErrForm)
	}
	k := 1 + int(w.b[0])
	v := new(big.Int).SetBytes(w.b[1:k]).Uint64()
	if v > most {
		return w.fail(api.ErrLong)
	}
	w.b = w.b[k:]
	return v
}

func (w *walk) int() int { return int(w.num(math.MaxInt64)) }

func (w *walk) text() string {
	n := int(w.num(64))
	if n > len(w.b) {
		w.fail(api.ErrShort)
	}
	if w.e != api.OK {
		return ""
	}
	s := string(w.b[:n])
	w.b = w.b[n:]
	return s
}

func (w *walk) draw() (d api.Draw) {
	d.Hi = w.num(math.MaxUint64)
	d.Lo = w.num(math.MaxUint64)
	return d
}

func (w *walk) entry(whole bool) (e api.Entry) {
	e.Client = w.int()
	e.Number = w.int()
	if whole {
		e.Op.Kind = w.int()
		e.Op.Slot = w.int()
		e.Op.Value = w.text()
	}
	return e
}

func (w *walk) field(m *api.Msg, letter rune) {
	switch letter {
	case 'N':
		m.Node = w.int()
	case 'V':
		m.View = w.int()
	case 'B':
		m.Last = w.int()
	case 'P':
		m.Place = w.int()
	case 'C':
		m.Commit = w.int()
	case 'D':
		m.Draw = w.draw()
	case 'E', 'e':
		m.Entry = w.entry(letter == 'E')
	case 'R':
		m.Result.Code = w.int()
		m.Result.Slot = w.int()
		m.Result.Value = w.text()
	case 'G':
		for range w.num(256) {
			m.Log = append(m.Log, w.entry(true))
		}
	case 'X':
		for range w.num(7) {
			m.Vector = append(m.Vector, w.draw())
		}
	}
}

// wantRead: what a body is decoded as.
func wantRead(c api.Config, body []byte) (api.Msg, api.Errno) {
	w := walk{b: body}
	m := api.Msg{Kind: api.Kind(w.int())}
	if w.e == api.OK && layout(m.Kind) == "" {
		return api.Msg{}, api.ErrKind
	}
	for _, letter := range layout(m.Kind) {
		w.field(&m, letter)
	}
	if len(w.b) > 0 {
		w.fail(api.ErrTail)
	}
	if w.e == api.OK {
		w.e = wantCheck(c, m)
	}
	if w.e != api.OK {
		return api.Msg{}, w.e
	}
	return m, api.OK
}

func pick[T any](r *rand.Rand, l ...T) T { return l[r.IntN(len(l))] }

// someMsg: a message of the kind that may be.
func someMsg(r *rand.Rand, c api.Config, k api.Kind) api.Msg {
	n := 2*c.F + 1
	m := api.Msg{Node: r.IntN(n), View: pick(r, 1+r.IntN(9), 1+r.IntN(1<<32), 1<<32, 1, 0), Place: r.IntN(c.Room + 1), Draw: someDraw(r, 1)}
	switch k {
	case api.KindStartViewChange, api.KindDoViewChange, api.KindStartView:
		m.View = max(m.View, 1)
		m.Last = r.IntN(m.View)
	}
	m.Log = someLog(r, pick(r, 0, c.Room, r.IntN(c.Room+1)))
	switch k {
	case api.KindPrepare, api.KindCommit, api.KindStartView:
		m.Node = m.View % n
	case api.KindRecoveryResponse:
		if m.Node != m.View%n {
			m.Log = nil
		}
	}
	m.Commit = r.IntN(c.Room + 1)
	if uses(k, "G") {
		m.Commit = r.IntN(len(m.Log) + 1)
	}
	for range n {
		m.Vector = append(m.Vector, someDraw(r, 0))
	}
	if k == api.KindRecovery {
		m.Vector[m.Node] = m.Draw
	}
	if k == api.KindPrepare || k == api.KindReply {
		m.Place = max(m.Place, 1)
	}
	m.Entry = entry(r.IntN(16), 1+r.IntN(math.MaxInt), someOp(r))
	if k == api.KindQuery {
		m.Entry.Op = pick(r, read(r.IntN(1024)), api.Op{Kind: api.OpCount})
	}
	m.Result = someResult(r, k == api.KindTold)
	if k == api.KindReply && m.Result.Code == api.ResRefused {
		m.Place = 0
	}
	return stripped(m, k)
}

func someDraw(r *rand.Rand, least uint64) api.Draw {
	return api.Draw{Hi: pick(r, 0, 1, r.Uint64()>>r.IntN(64), math.MaxUint64), Lo: max(least, r.Uint64()>>r.IntN(64))}
}

func someValue(r *rand.Rand) string {
	b := make([]byte, pick(r, 0, 1, 2, 63, 64, r.IntN(65)))
	for i := range b {
		b[i] = byte(r.Uint32())
	}
	return string(b)
}

func someOp(r *rand.Rand) api.Op {
	slot := pick(r, 0, 1023, r.IntN(1024))
	return pick(r, write(slot, someValue(r)), api.Op{Kind: api.OpAppend, Value: someValue(r)}, read(slot), api.Op{Kind: api.OpCount})
}

func someLog(r *rand.Rand, n int) []api.Entry {
	var l []api.Entry
	var last [16]int
	for range n {
		c := r.IntN(16)
		last[c] += 1 + r.IntN(pick(r, 2, 300, math.MaxInt/512))
		l = append(l, entry(c, last[c], someOp(r)))
	}
	return l
}

func someResult(r *rand.Rand, reading bool) api.Result {
	slot := pick(r, 0, 1023, r.IntN(1024))
	if reading {
		return pick(r, res(api.ResFound, slot, someValue(r)), res(api.ResNone, slot, ""), res(api.ResCount, pick(r, slot, 1024), ""))
	}
	return pick(r, someResult(r, true), res(api.ResWritten, slot, someValue(r)), res(api.ResTaken, slot, someValue(r)), res(api.ResFull, 0, ""), res(api.ResRefused, 0, ""))
}

// spoilt: the message with one of its fields turned to another value, that may be or not.
func spoilt(r *rand.Rand, c api.Config, m api.Msg) api.Msg {
	near := func(edges ...int) int {
		return pick(r, pick(r, edges...)+r.IntN(3)-1, pick(r, wild...), r.IntN(8))
	}
	op := func() api.Op {
		return api.Op{Kind: r.IntN(6), Slot: near(0, 1023), Value: pick(r, "", "v", longest, longest+"v")}
	}
	switch r.IntN(11) {
	case 0:
		m.Kind = api.Kind(near(1, 14))
	case 1:
		m.Node = near(0, 2*c.F)
	case 2:
		m.View = near(0, 1<<32)
	case 3:
		m.Last = near(0, m.View)
	case 4:
		m.Place = near(0, c.Room)
	case 5:
		m.Commit = near(0, c.Room, len(m.Log))
	case 6:
		m.Draw = pick(r, api.Draw{}, someDraw(r, 0))
	case 7:
		m.Entry = pick(r, api.Entry{}, entry(near(0, 15), m.Entry.Number, m.Entry.Op), entry(m.Entry.Client, near(0, 1), m.Entry.Op), entry(1, 1, op()), entry(1, 1, api.Op{}))
	case 8:
		m.Result = pick(r, api.Result{}, res(near(1, 7), m.Result.Slot, m.Result.Value), res(m.Result.Code, near(0, 1023, 1024), m.Result.Value), res(m.Result.Code, 0, op().Value))
	case 9:
		m.Log = spoiltLog(r, c, m.Log, op())
	case 10:
		m.Vector = append(append(api.Vector{}, m.Vector...), api.Draw{})[:r.IntN(len(m.Vector)+2)]
	}
	return m
}

func spoiltLog(r *rand.Rand, c api.Config, l []api.Entry, op api.Op) []api.Entry {
	l = append([]api.Entry{}, l...)
	switch {
	case r.IntN(4) == 0:
		return someLog(r, r.IntN(c.Room+3))
	case len(l) == 0:
		return []api.Entry{entry(1, 1, op)}
	}
	at := r.IntN(len(l))
	l[at] = pick(r, entry(l[at].Client, l[at].Number, op), entry(pick(r, wild...), 1, l[at].Op), entry(16, 1, l[at].Op), entry(3, 0, l[at].Op), l[0], l[len(l)-1])
	return l
}

// encoded: the frame of a message that may be.
func encoded(t *testing.T, c api.Config, m api.Msg) []byte {
	t.Helper()
	f, e := message.Encode(c, m)
	if e != api.OK {
		t.Fatalf("Encode(%+v, %+v): %d", c, m, e)
	}
	return f
}

func expectCheck(t *testing.T, c api.Config, m api.Msg, want api.Errno) {
	t.Helper()
	if e := message.Check(c, m); e != want {
		t.Fatalf("Check(%+v, %+v): %d, want %d", c, m, e, want)
	}
	// Encode has Check's errors, and nothing beside them.
	if f, e := message.Encode(c, m); e != want || (e == api.OK) != (len(f) > 0) {
		t.Fatalf("Encode(%+v, %+v): %v, %d, want %d", c, m, f, e, want)
	}
}

// expectMade asks for OK where ok holds, for ErrField where not.
func expectMade(t *testing.T, c api.Config, m api.Msg, ok bool) {
	t.Helper()
	if ok {
		expectCheck(t, c, m, api.OK)
	} else {
		expectCheck(t, c, m, api.ErrField)
	}
}

func failDecode(t *testing.T, c api.Config, frame []byte, want api.Errno) {
	t.Helper()
	if m, e := message.Decode(c, frame); e != want || !same(m, api.Msg{}) {
		t.Fatalf("Decode(%+v, %v): %+v, %d, want %d", c, frame, m, e, want)
	}
}

func expectDecode(t *testing.T, c api.Config, frame []byte, want api.Msg) {
	t.Helper()
	if m, e := message.Decode(c, frame); e != api.OK || !same(m, want) {
		t.Fatalf("Decode(%+v, %v): %+v, %d, want %+v", c, frame, m, e, want)
	}
}
