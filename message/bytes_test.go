package message_test

import (
	"bytes"
	"math"
	"math/rand/v2"
	"slices"
	"strings"
	"testing"

	"amnesia/api"
	"amnesia/message"
)

// P7.2: Encode.

// Example 1.
func TestEncodeExample(t *testing.T) {
	m := api.Msg{Kind: api.KindRequest, Entry: entry(1, 2, write(7, "a"))}
	want := frameOf([]byte{1, 1, 1, 1, 1, 2, 1, 1, 1, 7, 1, 1, 97})
	if f := encoded(t, small, m); !bytes.Equal(f, want) {
		t.Fatalf("%v, want %v", f, want)
	}
	expectDecode(t, small, want, m)
}

// One message of each kind with unlike numbers, its body byte for byte.
func bodies() []struct {
	m    api.Msg
	body []byte
} {
	v := api.Vector{{}, {Hi: 1, Lo: 256}, {Lo: math.MaxUint64}}
	vb := []byte{1, 3, 0, 0, 1, 1, 2, 1, 0, 0, 8, 255, 255, 255, 255, 255, 255, 255, 255}
	log := []api.Entry{entry(0, 1, write(0, "")), entry(15, 300, api.Op{Kind: api.OpAppend, Value: "xy"})}
	lb := []byte{1, 2 /**/, 0, 1, 1, 1, 1, 0, 0 /**/, 1, 15, 2, 1, 44, 1, 2, 0, 1, 2, 'x', 'y'}
	name := entry(3, 9, api.Op{})
	with := func(head []byte, parts ...[]byte) []byte { return slices.Concat(append([][]byte{head}, parts...)...) }
	return []struct {
		m    api.Msg
		body []byte
	}{
		{api.Msg{Kind: api.KindRequest, Entry: entry(15, 1<<40, read(1023))}, []byte{1, 1, 1, 15, 6, 1, 0, 0, 0, 0, 0, 1, 3, 2, 3, 255, 0}},
		{api.Msg{Kind: api.KindReply, Node: 2, View: 7, Place: 4, Entry: name, Result: res(api.ResTaken, 256, "q")}, []byte{1, 2, 1, 2, 1, 7, 1, 4, 1, 3, 1, 9, 1, 2, 2, 1, 0, 1, 1, 'q'}},
		{api.Msg{Kind: api.KindReply, Entry: name, Result: res(api.ResRefused, 0, "")}, []byte{1, 2, 0, 0, 0, 1, 3, 1, 9, 1, 7, 0, 0}},
		{api.Msg{Kind: api.KindPrepare, Node: 2, View: 5, Place: 3, Commit: 2, Entry: entry(1, 2, write(7, "a")), Vector: v}, with([]byte{1, 3, 1, 2, 1, 5, 1, 3, 1, 2, 1, 1, 1, 2, 1, 1, 1, 7, 1, 1, 'a'}, vb)},
		{api.Msg{Kind: api.KindPrepareOK, Node: 1, View: 6, Place: 2, Vector: v}, with([]byte{1, 4, 1, 1, 1, 6, 1, 2}, vb)},
		{api.Msg{Kind: api.KindCommit, Node: 1, View: 1 << 32, Commit: 4, Vector: v}, with([]byte{1, 5, 1, 1, 5, 1, 0, 0, 0, 0, 1, 4}, vb)},
		{api.Msg{Kind: api.KindStartViewChange, Node: 2, View: 9, Vector: v}, with([]byte{1, 6, 1, 2, 1, 9}, vb)},
		{api.Msg{Kind: api.KindDoViewChange, Node: 2, View: 9, Last: 8, Commit: 1, Log: log, Vector: v}, with([]byte{1, 7, 1, 2, 1, 9, 1, 8, 1, 1}, lb, vb)},
		{api.Msg{Kind: api.KindStartView, Node: 2, View: 8, Commit: 2, Log: log, Vector: v}, with([]byte{1, 8, 1, 2, 1, 8, 1, 2}, lb, vb)},
		{api.Msg{Kind: api.KindRecovery, Node: 1, Draw: api.Draw{Hi: 1, Lo: 256}, Vector: v}, with([]byte{1, 9, 1, 1, 1, 1, 2, 1, 0}, vb)},
		{api.Msg{Kind: api.KindRecoveryResponse, Node: 2, View: 5, Commit: 1, Draw: api.Draw{Hi: 258, Lo: 3}, Log: log, Vector: v}, with([]byte{1, 10, 1, 2, 1, 5, 1, 1, 2, 1, 2, 1, 3}, lb, vb)},
		{api.Msg{Kind: api.KindRecoveryResponse, Node: 1, View: 5, Draw: api.Draw{Hi: 4}, Vector: v}, with([]byte{1, 10, 1, 1, 1, 5, 0, 1, 4, 0, 0}, vb)},
		{api.Msg{Kind: api.KindGetState, Node: 1, View: 3, Vector: v}, with([]byte{1, 11, 1, 1, 1, 3}, vb)},
		{api.Msg{Kind: api.KindNewState, Node: 0, View: 4, Commit: 2, Log: log, Vector: v}, with([]byte{1, 12, 0, 1, 4, 1, 2}, lb, vb)},
		{api.Msg{Kind: api.KindQuery, Place: 3, Entry: entry(2, 8, read(5))}, []byte{1, 13, 1, 3, 1, 2, 1, 8, 1, 3, 1, 5, 0}},
		{api.Msg{Kind: api.KindTold, Node: 1, View: 2, Commit: 3, Entry: name, Result: res(api.ResCount, 1024, "")}, []byte{1, 14, 1, 1, 1, 2, 1, 3, 1, 3, 1, 9, 1, 6, 2, 4, 0, 0}},
	}
}

func TestEncodeEachKind(t *testing.T) {
	for _, x := range bodies() {
		if f := encoded(t, small, x.m); !bytes.Equal(f, frameOf(x.body)) {
			t.Errorf("%+v:\n%v, want\n%v", x.m, f, frameOf(x.body))
		}
		expectDecode(t, small, frameOf(x.body), x.m)
	}
}

// P6: the greatest messages are less than MaxFrame; an entry of 82 bytes, a log of 20,995, a crash vector of 128.
func TestEncodeSizes(t *testing.T) {
	c := api.Config{F: 3, Room: 256, Patience: 6}
	var log []api.Entry
	for i := range 256 {
		log = append(log, entry(1+i%15, math.MaxInt-256+i, write(768+i, longest)))
	}
	v := make(api.Vector, 7)
	for i := range v {
		v[i] = api.Draw{Hi: math.MaxUint64, Lo: math.MaxUint64 - uint64(i)}
	}
	node := 1 << 32 % 7
	full := api.Msg{Node: node, View: 1 << 32, Last: 1<<32 - 1, Place: 256, Commit: 256, Draw: v[node], Entry: entry(15, math.MaxInt, read(1023)), Result: res(api.ResFound, 1023, longest), Log: log, Vector: v}
	for _, x := range []struct {
		k    api.Kind
		size int
	}{
		{api.KindRequest, 2 + 82}, {api.KindReply, 2 + 2 + 6 + 3 + 11 + 71}, {api.KindPrepare, 2 + 2 + 6 + 3 + 3 + 82 + 128},
		{api.KindPrepareOK, 2 + 2 + 6 + 3 + 128}, {api.KindCommit, 2 + 2 + 6 + 3 + 128}, {api.KindStartViewChange, 2 + 2 + 6 + 128},
		{api.KindDoViewChange, 2 + 2 + 6 + 5 + 3 + 20995 + 128}, {api.KindStartView, 2 + 2 + 6 + 3 + 20995 + 128}, {api.KindRecovery, 2 + 2 + 18 + 128},
		{api.KindRecoveryResponse, 2 + 2 + 6 + 3 + 18 + 20995 + 128}, {api.KindGetState, 2 + 2 + 6 + 128}, {api.KindNewState, 2 + 2 + 6 + 3 + 20995 + 128},
		{api.KindQuery, 2 + 3 + 2 + 9 + 2 + 3 + 1}, {api.KindTold, 2 + 2 + 6 + 3 + 11 + 71},
	} {
		m := stripped(full, x.k)
		if x.k == api.KindRequest || x.k == api.KindPrepare {
			m.Entry.Op = write(1023, longest)
		}
		f := encoded(t, c, m)
		if len(f) != x.size+12 || len(f) >= api.MaxFrame {
			t.Errorf("kind %d: a frame of %d bytes, want %d", x.k, len(f), x.size+12)
		}
		expectDecode(t, c, f, m)
	}
}

// P7.2: Decode, with the order of its errors.

func TestDecodeConfigFirst(t *testing.T) {
	right := frameOf(wantBody(good(small, api.KindRequest)))
	spoilt := slices.Clone(right)
	spoilt[9] ^= 1
	for _, c := range []api.Config{{}, {F: 0, Room: 4, Patience: 6}, {F: 4, Room: 4, Patience: 6}, {F: 1, Room: 0, Patience: 6}, {F: 1, Room: 257, Patience: 6}, {F: 1, Room: 4, Patience: 5}, {F: 1, Room: 4, Patience: 101}, {F: -1, Room: -1, Patience: -1}, {F: math.MaxInt, Room: math.MaxInt, Patience: math.MaxInt}} {
		for _, f := range [][]byte{nil, {}, right, spoilt, right[:9], make([]byte, 40000), frameOf(nil), frameOf(nums(99))} {
			failDecode(t, c, f, api.ErrConfig)
		}
	}
}

// wire.Open's errors come ahead of the body's.
func TestDecodeFrames(t *testing.T) {
	for _, body := range [][]byte{nil, nums(99), wantBody(good(small, api.KindPrepare)), append(nums(15), 9, 9)} {
		f := frameOf(body)
		told := func(n int) []byte { // as if the body had so many bytes
			g := slices.Clone(f)
			g[4], g[5], g[6], g[7] = byte(n>>24), byte(n>>16), byte(n>>8), byte(n)
			return g
		}
		for n := range len(f) {
			failDecode(t, small, f[:n], api.ErrShort)
		}
		failDecode(t, small, append(slices.Clone(f), 0), api.ErrTail)
		failDecode(t, small, append(slices.Clone(f), f...), api.ErrTail)
		failDecode(t, small, told(len(body)+1), api.ErrShort)
		failDecode(t, small, told(1<<31), api.ErrShort)
		if len(body) > 0 {
			failDecode(t, small, told(len(body)-1), api.ErrTail)
		}
		for at := range f {
			g := slices.Clone(f)
			g[at] ^= 64
			switch {
			case at < 4:
				failDecode(t, small, g, api.ErrMagic)
			case at >= 8:
				failDecode(t, small, g, api.ErrSum)
			}
		}
	}
	failDecode(t, small, nil, api.ErrShort)
	failDecode(t, small, make([]byte, 12), api.ErrMagic)
	failDecode(t, small, make([]byte, api.MaxFrame), api.ErrMagic)
	failDecode(t, small, make([]byte, api.MaxFrame+1), api.ErrLong)
	failDecode(t, small, frameOf(make([]byte, api.MaxFrame-12)), api.ErrKind)
	failDecode(t, small, frameOf(make([]byte, api.MaxFrame-11)), api.ErrLong)
}

// The first number: wire's error, or no kind, whatever comes behind.
func TestDecodeKind(t *testing.T) {
	failDecode(t, small, frameOf(nil), api.ErrShort)
	failDecode(t, small, frameOf([]byte{1}), api.ErrShort)
	failDecode(t, small, frameOf([]byte{8, 1, 1, 1, 1, 1, 1, 1}), api.ErrShort)
	failDecode(t, small, frameOf([]byte{9}), api.ErrForm)
	failDecode(t, small, frameOf([]byte{255, 1, 1}), api.ErrForm)
	failDecode(t, small, frameOf([]byte{1, 0}), api.ErrForm)
	failDecode(t, small, frameOf([]byte{2, 0, 1, 1}), api.ErrForm)
	for _, behind := range [][]byte{nil, {9}, {1}, wantBody(good(small, api.KindCommit)), make([]byte, 9)} {
		for _, k := range []uint64{0, 15, 16, 17, 255, 257, 1<<32 + 1, math.MaxInt64 - 1, math.MaxInt64} {
			failDecode(t, small, frameOf(append(num(k), behind...)), api.ErrKind)
		}
		for _, k := range []uint64{math.MaxInt64 + 1, math.MaxInt64 + 2, math.MaxUint64} {
			failDecode(t, small, frameOf(append(num(k), behind...)), api.ErrLong)
		}
	}
}

// The body of each kind, cut short at each byte, and with bytes behind.
func TestDecodeCutAndTail(t *testing.T) {
	for _, k := range allKinds() {
		m := good(small, k)
		body := wantBody(m)
		for n := range len(body) {
			failDecode(t, small, frameOf(body[:n]), api.ErrShort)
		}
		expectDecode(t, small, frameOf(body), m)
		for _, behind := range [][]byte{{0}, {9}, {1, 0}, body, make([]byte, 300)} {
			failDecode(t, small, frameOf(slices.Concat(body, behind)), api.ErrTail)
		}
		if uses(k, "N") { // a field that may not be comes behind all of these
			m.Node = 3
		} else {
			m.Entry.Client = 16
		}
		body = wantBody(m)
		failDecode(t, small, frameOf(body), api.ErrField)
		failDecode(t, small, frameOf(append(body, 0)), api.ErrTail)
		failDecode(t, small, frameOf(body[:len(body)-1]), api.ErrShort)
	}
}

// tokens: a body's parts, cut behind each number, and what each is: 'i' an int, 'd' half a draw, 't' a text's length with the text, 'g' a log's count, 'x' a crash vector's.
func tokens(m api.Msg) ([][]byte, string) {
	var l [][]byte
	kinds := ""
	add := func(kind string, parts ...[]byte) {
		l = append(l, parts...)
		kinds += strings.Repeat(kind, len(parts))
	}
	entryParts := func(e api.Entry) {
		add("i", nums(e.Client), nums(e.Number), nums(e.Op.Kind), nums(e.Op.Slot))
		add("t", text(e.Op.Value))
	}
	add("i", nums(int(m.Kind)))
	for _, letter := range layout(m.Kind) {
		switch letter {
		case 'N':
			add("i", nums(m.Node))
		case 'V':
			add("i", nums(m.View))
		case 'B':
			add("i", nums(m.Last))
		case 'P':
			add("i", nums(m.Place))
		case 'C':
			add("i", nums(m.Commit))
		case 'D':
			add("d", num(m.Draw.Hi), num(m.Draw.Lo))
		case 'E':
			entryParts(m.Entry)
		case 'e':
			add("i", nums(m.Entry.Client), nums(m.Entry.Number))
		case 'R':
			add("i", nums(m.Result.Code), nums(m.Result.Slot))
			add("t", text(m.Result.Value))
		case 'G':
			add("g", nums(len(m.Log)))
			for _, e := range m.Log {
				entryParts(e)
			}
		case 'X':
			add("x", nums(len(m.Vector)))
			for _, d := range m.Vector {
				add("d", num(d.Hi), num(d.Lo))
			}
		}
	}
	return l, kinds
}

// Each part of each kind in turn as something that no writer lays down: the first of them is told, whatever comes behind.
func TestDecodeEachPart(t *testing.T) {
	for _, k := range allKinds() {
		parts, kinds := tokens(good(small, k))
		if !bytes.Equal(slices.Concat(parts...), wantBody(good(small, k))) {
			t.Fatalf("the parts of kind %d are not its body", k)
		}
		for i := range parts {
			with := func(part []byte) []byte {
				l := slices.Clone(parts)
				l[i] = part
				return frameOf(slices.Concat(l...))
			}
			failDecode(t, small, with([]byte{9}), api.ErrForm)
			failDecode(t, small, with([]byte{1, 0}), api.ErrForm)
			failDecode(t, small, with([]byte{8, 0, 255, 255, 255, 255, 255, 255, 255}), api.ErrForm)
			failDecode(t, small, frameOf(slices.Concat(append(slices.Clone(parts[:i]), []byte{8, 0})...)), api.ErrShort)
			failDecode(t, small, frameOf(slices.Concat(append(slices.Clone(parts[:i]), []byte{1, 0})...)), api.ErrForm)
			failDecode(t, small, frameOf(slices.Concat(parts[:i]...)), api.ErrShort)
			greatest := with(num(math.MaxInt64))
			above := with(num(math.MaxInt64 + 1))
			top := with(num(math.MaxUint64))
			switch kinds[i] {
			case 'i':
				failDecode(t, small, above, api.ErrLong)
				failDecode(t, small, top, api.ErrLong)
				if i == 0 {
					failDecode(t, small, greatest, api.ErrKind)
				} else if m, e := message.Decode(small, greatest); e == api.ErrLong || (e == api.OK) != (m.Kind == k) {
					t.Fatalf("kind %d, part %d as the greatest int: %+v, %d", k, i, m, e)
				}
			case 'd':
				for _, f := range [][]byte{greatest, above, top} { // half a draw may be any
					if m, e := message.Decode(small, f); e != api.OK && k != api.KindRecovery || (e == api.OK) != (m.Kind == k) {
						t.Fatalf("kind %d, part %d as a great half: %+v, %d", k, i, m, e)
					}
				}
			case 't':
				failDecode(t, small, with(nums(65)), api.ErrLong)
				failDecode(t, small, with(text(longest+"v")), api.ErrLong)
				failDecode(t, small, above, api.ErrLong)
				failDecode(t, small, frameOf(slices.Concat(append(slices.Clone(parts[:i]), nums(64), make([]byte, 63))...)), api.ErrShort)
			case 'g':
				failDecode(t, small, with(nums(257)), api.ErrLong)
				failDecode(t, small, greatest, api.ErrLong)
				failDecode(t, small, above, api.ErrLong)
				failDecode(t, small, frameOf(slices.Concat(append(slices.Clone(parts[:i]), nums(256))...)), api.ErrShort)
			case 'x':
				failDecode(t, small, with(nums(8)), api.ErrLong)
				failDecode(t, small, greatest, api.ErrLong)
				failDecode(t, small, above, api.ErrLong)
				failDecode(t, small, frameOf(slices.Concat(append(slices.Clone(parts[:i]), nums(7))...)), api.ErrShort)
			}
		}
	}
}

// Counts that a frame may have and this group's messages may not: ErrField, not ErrLong.
func TestDecodeCounts(t *testing.T) {
	for _, k := range logKinds() {
		m := good(small, k)
		for _, n := range []int{5, 255, 256} {
			m.Log = logOf(n)
			failDecode(t, small, frameOf(wantBody(m)), api.ErrField)
		}
		c := api.Config{F: 1, Room: 256, Patience: 6}
		expectDecode(t, c, frameOf(wantBody(m)), m)
		m.Log = logOf(257)
		failDecode(t, c, frameOf(wantBody(m)), api.ErrLong)
	}
	for _, k := range allKinds() {
		if !uses(k, "X") {
			continue
		}
		m := good(small, k)
		own := m.Vector
		for _, n := range []int{0, 1, 2, 4, 5, 6, 7} {
			m.Vector = append(append(api.Vector{}, own...), make(api.Vector, 9)...)[:n]
			failDecode(t, small, frameOf(wantBody(m)), api.ErrField)
		}
		m.Vector = append(append(api.Vector{}, own...), make(api.Vector, 9)...)[:8]
		failDecode(t, small, frameOf(wantBody(m)), api.ErrLong)
	}
}

// The frame of one group need not be that of another.
func TestDecodeByConfig(t *testing.T) {
	for _, c := range configs() {
		for _, other := range configs() {
			for _, k := range allKinds() {
				m := good(c, k)
				f := encoded(t, c, m)
				if want := wantCheck(other, m); want == api.OK {
					expectDecode(t, other, f, m)
				} else {
					failDecode(t, other, f, want)
				}
			}
		}
	}
}

// A message of a kind that asks for a thing, laid down by hand without it.
func TestDecodeFields(t *testing.T) {
	v := vectorOf(small)
	e := entry(1, 2, write(7, "a"))
	for _, m := range []api.Msg{
		{Kind: api.KindRequest, Entry: entry(16, 2, write(7, "a"))},
		{Kind: api.KindRequest, Entry: entry(1, 0, write(7, "a"))},
		{Kind: api.KindRequest, Entry: entry(1, 1, write(1024, "a"))},
		{Kind: api.KindRequest, Entry: entry(1, 1, api.Op{Kind: 5})},
		{Kind: api.KindReply, Place: 1, Entry: entry(1, 1, api.Op{}), Result: res(api.ResRefused, 0, "")},
		{Kind: api.KindReply, Place: 1, Entry: entry(1, 1, api.Op{}), Result: res(8, 0, "")},
		{Kind: api.KindReply, Place: 1, Entry: entry(1, 1, api.Op{}), Result: res(api.ResNone, 1, "v")},
		{Kind: api.KindPrepare, Node: 1, Place: 1, Entry: e, Vector: v},
		{Kind: api.KindPrepare, Place: 5, Entry: e, Vector: v},
		{Kind: api.KindCommit, Node: 1, Vector: v},
		{Kind: api.KindCommit, Commit: 5, Vector: v},
		{Kind: api.KindStartViewChange, Vector: v},
		{Kind: api.KindStartViewChange, View: 1<<32 + 1, Vector: v},
		{Kind: api.KindDoViewChange, View: 3, Last: 3, Vector: v},
		{Kind: api.KindDoViewChange, View: 3, Last: 2, Commit: 1, Vector: v},
		{Kind: api.KindStartView, Node: 2, View: 2, Log: []api.Entry{e, e}, Vector: v},
		{Kind: api.KindRecovery, Draw: api.Draw{Lo: 4}, Vector: v},
		{Kind: api.KindRecovery, Vector: make(api.Vector, 3)},
		{Kind: api.KindRecoveryResponse, Vector: v},
		{Kind: api.KindRecoveryResponse, Node: 1, Draw: api.Draw{Lo: 1}, Log: []api.Entry{e}, Vector: v},
		{Kind: api.KindGetState, Node: math.MaxInt, Vector: v},
		{Kind: api.KindNewState, View: math.MaxInt, Vector: v},
		{Kind: api.KindQuery, Place: 1, Entry: e},
		{Kind: api.KindTold, Entry: entry(1, 1, api.Op{}), Result: res(api.ResWritten, 7, "a")},
	} {
		failDecode(t, small, frameOf(wantBody(m)), api.ErrField)
	}
}

// Bodies with some bytes changed, taken away or put in, in frames that are right: read as the chapter says.
func TestDecodeAnyBody(t *testing.T) {
	r := rand.New(rand.NewPCG(7, 3))
	met := map[api.Errno]int{}
	for range 60000 {
		c := pick(r, configs()[:3]...)
		m := someMsg(r, c, pick(r, allKinds()...))
		for range r.IntN(2) {
			m = spoilt(r, c, m)
		}
		body := spoiltBody(r, wantBody(m))
		want, e := wantRead(c, body)
		met[e]++
		if e == api.OK {
			expectDecode(t, c, frameOf(body), want)
		} else {
			failDecode(t, c, frameOf(body), e)
		}
	}
	for _, e := range []api.Errno{api.OK, api.ErrShort, api.ErrForm, api.ErrLong, api.ErrTail, api.ErrKind, api.ErrField} {
		if met[e] < 300 {
			t.Errorf("error %d was met %d times", e, met[e])
		}
	}
}

func spoiltBody(r *rand.Rand, b []byte) []byte {
	for range r.IntN(3) {
		at := r.IntN(len(b) + 1)
		switch r.IntN(6) {
		case 0:
			b = b[:at]
		case 1:
			b = slices.Insert(b, at, byte(r.IntN(10)))
		case 2, 3:
			if at < len(b) {
				b[at] = pick(r, byte(r.IntN(10)), byte(r.Uint32()))
			}
		case 4:
			if at < len(b) {
				b = slices.Delete(b, at, at+1)
			}
		case 5:
			b = slices.Insert(b, at, num(r.Uint64()>>r.IntN(64))...)
		}
	}
	return b
}

// Bytes that are a body of nothing in particular, and frames of nothing in particular.
func TestDecodeAnyBytes(t *testing.T) {
	r := rand.New(rand.NewPCG(7, 4))
	for range 60000 {
		b := make([]byte, r.IntN(40))
		for i := range b {
			b[i] = pick(r, byte(r.IntN(4)), byte(r.IntN(16)), byte(r.Uint32()))
		}
		want, e := wantRead(small, b)
		if e == api.OK {
			expectDecode(t, small, frameOf(b), want)
		} else {
			failDecode(t, small, frameOf(b), e)
		}
		if _, e := message.Decode(small, b); e == api.OK {
			t.Fatalf("%v is decoded", b)
		}
	}
}

// P7.3: there and back.

func TestThereAndBack(t *testing.T) {
	r := rand.New(rand.NewPCG(7, 5))
	for i := range 20000 {
		c := pick(r, configs()...)
		m := someMsg(r, c, allKinds()[i%14])
		f := encoded(t, c, m)
		if !bytes.Equal(f, frameOf(wantBody(m))) {
			t.Fatalf("%+v is laid down as %v", m, f)
		}
		got, e := message.Decode(c, f)
		if e != api.OK || !same(got, m) || !message.Alike(got, m) {
			t.Fatalf("%+v comes back as %+v, %d", m, got, e)
		}
		if again := encoded(t, c, got); !bytes.Equal(again, f) {
			t.Fatalf("%+v: the second frame is another", m)
		}
	}
}

// What Decode takes, Encode makes again, byte for byte.
func TestBackAndThere(t *testing.T) {
	r := rand.New(rand.NewPCG(7, 6))
	taken := map[api.Kind]int{}
	for range 60000 {
		f := frameOf(spoiltBody(r, wantBody(someMsg(r, small, pick(r, allKinds()...)))))
		m, e := message.Decode(small, f)
		if e != api.OK {
			continue
		}
		taken[m.Kind]++
		if !bytes.Equal(encoded(t, small, m), f) {
			t.Fatalf("%v is decoded as %+v, whose frame is another", f, m)
		}
	}
	for _, k := range allKinds() {
		if taken[k] < 500 {
			t.Errorf("kind %d was taken %d times", k, taken[k])
		}
	}
}

// No two unlike messages have one frame, and no two frames one message.
func TestOneFrameOneMessage(t *testing.T) {
	r := rand.New(rand.NewPCG(7, 7))
	frames := map[string]api.Msg{}
	for range 30000 {
		c := api.Config{F: 1, Room: 2, Patience: 6}
		m := someMsg(r, c, pick(r, allKinds()...))
		m.View, m.Entry.Number, m.Last = min(m.View, 3), min(m.Entry.Number, 3), min(m.Last, 1)
		m.Entry.Op.Value = m.Entry.Op.Value[:min(1, len(m.Entry.Op.Value))]
		f, e := message.Encode(c, m)
		if e != api.OK {
			continue
		}
		if other, met := frames[string(f)]; met && !message.Alike(m, other) {
			t.Fatalf("one frame of %+v and %+v", m, other)
		}
		frames[string(f)] = m
	}
	one := map[string]string{}
	for f, m := range frames {
		body := string(wantBody(m))
		if other, met := one[body]; met && other != f {
			t.Fatalf("two frames of %+v", m)
		}
		one[body] = f
	}
	if len(frames) < 5000 {
		t.Errorf("only %d frames", len(frames))
	}
}

// P7.4: bits changed within 32 of one another.

// flip changes bits of a frame: bit i of pattern is the bit first + i, within a byte counted from the lowest.
func flip(frame []byte, first int, pattern uint32) []byte {
	f := slices.Clone(frame)
	for i := range 32 {
		if pattern>>i&1 == 1 {
			f[(first+i)/8] ^= 1 << ((first + i) % 8)
		}
	}
	return f
}

func TestChangedBits(t *testing.T) {
	r := rand.New(rand.NewPCG(7, 8))
	for _, k := range allKinds() {
		frame := encoded(t, small, good(small, k))
		last := 8*len(frame) - 1
		for first := 0; first <= last; first++ {
			patterns := []uint32{1, 3, 5, 0xff, 1<<31 | 1, math.MaxUint32}
			for width := 1; width < 32; width++ {
				patterns = append(patterns, 1|1<<width|r.Uint32()&(1<<width-1))
			}
			for _, p := range patterns {
				if last-first < 31 && p>>(last-first+1) != 0 {
					continue
				}
				f := flip(frame, first, p)
				if m, e := message.Decode(small, f); e == api.OK || !same(m, api.Msg{}) {
					t.Fatalf("kind %d, changed by %#x from bit %d on, is decoded", k, p, first)
				}
			}
		}
	}
}

func TestChangedBitsOfAGreatFrame(t *testing.T) {
	r := rand.New(rand.NewPCG(7, 9))
	c := api.Config{F: 3, Room: 256, Patience: 6}
	m := good(c, api.KindStartView)
	for i := range m.Log {
		m.Log[i].Op = write(1023, longest)
	}
	frame := encoded(t, c, m)
	for range 500 {
		first := r.IntN(8*len(frame) - 31)
		failed, e := message.Decode(c, flip(frame, first, 1|r.Uint32()))
		if e == api.OK || !same(failed, api.Msg{}) {
			t.Fatalf("changed from bit %d on, and decoded", first)
		}
	}
}
