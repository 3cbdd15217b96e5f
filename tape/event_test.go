package tape_test

import (
	"math"
	"slices"
	"strings"
	"testing"

	"amnesia/api"
	"amnesia/tape"
)

// P22.1 and, of events, P22.9: an event's bytes, there and back.

// expectPut: these are the event's bytes, and what GetEvent makes of them is the event with what it does not use being zero.
func expectPut(t *testing.T, e api.Event, want []byte) {
	t.Helper()
	b, err := tape.PutEvent(e)
	if err != api.OK || !slices.Equal(b, want) {
		t.Fatalf("PutEvent: %d, % x, want % x: %+v", err, b, want, e)
	}
	expectGot(t, want, plain(e))
}

func expectNotPut(t *testing.T, e api.Event, want api.Errno) {
	t.Helper()
	if b, err := tape.PutEvent(e); err != want || len(b) != 0 {
		t.Fatalf("PutEvent: %d, %d bytes, want %d: kind %d", err, len(b), want, e.Kind)
	}
}

func expectGot(t *testing.T, b []byte, want api.Event) {
	t.Helper()
	if e, err := tape.GetEvent(b); err != api.OK || !sameEvent(e, want) {
		t.Fatalf("GetEvent: %d, %+v, want %+v", err, e, want)
	}
}

func expectNotGot(t *testing.T, what string, b []byte, want api.Errno) {
	t.Helper()
	if e, err := tape.GetEvent(b); err != want || e.Bytes != nil || !sameEvent(e, api.Event{}) {
		t.Fatalf("%s: GetEvent: %d, %+v, want %d", what, err, e, want)
	}
}

// putting: PutEvent as the model has it.
func putting(t *testing.T, e api.Event) {
	t.Helper()
	b, err := modelPut(e)
	if err == api.OK {
		expectPut(t, e, b)
	} else {
		expectNotPut(t, e, err)
	}
}

// getting: GetEvent as the model has it; what it takes is put as the same bytes.
func getting(t *testing.T, what string, b []byte) api.Errno {
	t.Helper()
	e, err := modelGet(b)
	if err == api.OK {
		expectGot(t, b, e)
		expectPut(t, e, b)
	} else {
		expectNotGot(t, what, b, err)
	}
	return err
}

// Each kind's bytes, written out; what a kind does not use is not looked at.
func TestEventBytes(t *testing.T) {
	for _, x := range []struct {
		e    api.Event
		want string
	}{
		{api.Event{Kind: api.EventSubmit, Client: 3, Op: api.Op{Kind: 1, Slot: 7, Value: "a"}}, "\x01\x01\x01\x03\x01\x01\x01\x07\x01\x01a"},
		{api.Event{Kind: api.EventSubmit, Op: api.Op{Kind: 2, Value: ""}}, "\x01\x01\x00\x01\x02\x00\x00"},
		{api.Event{Kind: api.EventRetry, Client: 15}, "\x01\x02\x01\x0f"},
		{api.Event{Kind: api.EventDeliver, Index: 256, Cut: 2}, "\x01\x03\x02\x01\x00\x01\x02"},
		{api.Event{Kind: api.EventDrop, Index: 5}, "\x01\x04\x01\x05"},
		{api.Event{Kind: api.EventCopy, Index: 65536}, "\x01\x05\x03\x01\x00\x00"},
		{api.Event{Kind: api.EventSpoil, Index: 1, At: 2, Count: 255}, "\x01\x06\x01\x01\x01\x02\x01\xff"},
		{api.Event{Kind: api.EventInject, Node: 2, At: 7, Bytes: []byte{0, 255, 1}}, "\x01\x07\x01\x02\x01\x07\x01\x03\x00\xff\x01"},
		{api.Event{Kind: api.EventInject}, "\x01\x07\x00\x00\x00"},
		{api.Event{Kind: api.EventTick, Node: 1}, "\x01\x08\x01\x01\x00"},
		{api.Event{Kind: api.EventTick, Node: 1, Cut: 3}, "\x01\x08\x01\x01\x01\x03"},
		{api.Event{Kind: api.EventCrash, Node: 6}, "\x01\x09\x01\x06"},
		{api.Event{Kind: api.EventRestart, Node: 1, Cut: 4, Draw: api.Draw{Hi: 3, Lo: math.MaxUint64}}, "\x01\x0a\x01\x01\x01\x04\x01\x03\x08\xff\xff\xff\xff\xff\xff\xff\xff"},
		{api.Event{Kind: api.EventRestart}, "\x01\x0a\x00\x00\x00\x00"},
		{api.Event{Kind: api.EventRound, Count: 10000}, "\x01\x0b\x02\x27\x10"},
		{api.Event{Kind: api.EventQuery, Client: 2, Node: 1, Op: api.Op{Kind: 3, Slot: 7}}, "\x01\x0c\x01\x01\x01\x02\x01\x03\x01\x07\x00"},
		{api.Event{Kind: api.EventQuery, Op: api.Op{Kind: greatest, Slot: greatest, Value: "v"}}, "\x01\x0c\x00\x00\x08\x7f\xff\xff\xff\xff\xff\xff\xff\x08\x7f\xff\xff\xff\xff\xff\xff\xff\x01\x01v"},
	} {
		expectPut(t, x.e, []byte(x.want))
		if b, _ := modelPut(x.e); string(b) != x.want {
			t.Fatal("the test's own bytes are others:", b, x.want)
		}
	}
	for _, k := range eachKind() {
		expectPut(t, plain(full(k)), put(t, full(k)))
		putting(t, full(k))
		putting(t, api.Event{Kind: k})
	}
}

// put: the bytes that the model gives an event.
func put(t *testing.T, e api.Event) []byte {
	t.Helper()
	b, err := modelPut(e)
	if err != api.OK {
		t.Fatal("the test's own event may not be:", e)
	}
	return b
}

func TestNoSuchKind(t *testing.T) {
	for _, k := range wrongKinds {
		for _, e := range []api.Event{{Kind: k}, full(k)} {
			e.Node, e.Op.Value, e.Bytes = -1, strings.Repeat("x", 65), make([]byte, 16385)
			expectNotPut(t, e, api.ErrEvent)
		}
	}
}

// Each number at 0, below 0, and at its greatest, where it is used and where it is not.
func TestNumbersOfEvents(t *testing.T) {
	for _, k := range eachKind() {
		for field := range numbersOf(&api.Event{}) {
			for i := range numbersOf(&api.Event{})[field] {
				for _, n := range []int{0, 1, 255, 256, 1<<32 - 1, 1 << 32, greatest - 1, greatest, -1, -256, least + 1, least} {
					e := full(k)
					*numbersOf(&e)[field][i] = n
					putting(t, e)
					if n < 0 && uses(k, field) {
						expectNotPut(t, e, api.ErrEvent)
						e.Op.Value, e.Bytes = strings.Repeat("x", 65), make([]byte, 16385)
						expectNotPut(t, e, api.ErrEvent) // it is asked ahead of what is too long
					} else {
						expectPut(t, e, put(t, plain(e)))
					}
				}
			}
		}
		for _, half := range []uint64{0, 1, 255, 256, math.MaxInt64, math.MaxInt64 + 1, math.MaxUint64} {
			for _, d := range []api.Draw{{Hi: half}, {Lo: half}, {Hi: half, Lo: half}} {
				e := full(k)
				e.Draw = d
				expectPut(t, e, put(t, plain(e)))
			}
		}
	}
}

// As many bytes as there may be, and one more.
func TestLongEvents(t *testing.T) {
	for _, k := range eachKind() {
		for _, n := range []int{0, 1, 63, 64, 65, 66, 255, 256, 100000} {
			e := full(k)
			e.Op.Value = strings.Repeat("v", n)
			if uses(k, 'o') && n > 64 {
				expectNotPut(t, e, api.ErrLong)
			} else {
				expectPut(t, e, put(t, plain(e)))
			}
		}
		for _, n := range []int{0, 1, 255, 256, 16383, 16384, 16385, 32768, 100000} {
			e := full(k)
			e.Bytes = inject(n).Bytes
			if uses(k, 'b') && n > 16384 {
				expectNotPut(t, e, api.ErrLong)
			} else {
				expectPut(t, e, put(t, plain(e)))
			}
		}
	}
	// The same of bytes that are read.
	expectGot(t, slices.Concat(numbers(7, 0, 0), text(inject(16384).Bytes)), api.Event{Kind: api.EventInject, Bytes: inject(16384).Bytes})
	expectNotGot(t, "too many bytes", slices.Concat(numbers(7, 0, 0), text(inject(16385).Bytes)), api.ErrLong)
	expectNotGot(t, "too many bytes told, none there", numbers(7, 0, 0, 16385), api.ErrLong)
	expectNotGot(t, "as many told as there may be, none there", numbers(7, 0, 0, 16384), api.ErrShort)
	for _, kind := range []int{1, 12} {
		begin := numbers(kind, 0, 1, 7)
		if kind == 12 {
			begin = numbers(kind, 0, 0, 1, 7)
		}
		value := []byte(strings.Repeat("v", 65))
		e, err := tape.GetEvent(append(slices.Clone(begin), text(value[:64])...))
		if err != api.OK || e.Op.Value != string(value[:64]) {
			t.Fatal(e, err)
		}
		expectNotGot(t, "too long a value", append(slices.Clone(begin), text(value)...), api.ErrLong)
	}
}

func TestBytesThatEndTooEarly(t *testing.T) {
	for _, k := range eachKind() {
		b := put(t, full(k))
		for n := range b {
			expectNotGot(t, "too early", b[:n], api.ErrShort)
		}
		expectGot(t, b, plain(full(k)))
		for _, tail := range []string{"\x00", "\x09", "\x01\x01", "\x00\x00\x00", string(b)} {
			expectNotGot(t, "bytes behind", append(slices.Clone(b), tail...), api.ErrTail)
		}
	}
	expectNotGot(t, "no bytes", nil, api.ErrShort)
	expectNotGot(t, "no bytes", []byte{}, api.ErrShort)
}

// eachPart: an event's bytes number by number: texts are a length and what is behind it.
func eachPart(t *testing.T, e api.Event) (ahead [][]byte, number []uint64, behind [][]byte) {
	t.Helper()
	b := put(t, e)
	c := &cursor{b: b}
	for len(c.b) > 0 {
		ahead = append(ahead, b[:len(b)-len(c.b)])
		number = append(number, c.number(math.MaxUint64))
		behind = append(behind, c.b)
		if len(c.b) == len(e.Op.Value) && uses(e.Kind, 'o') || len(c.b) == len(e.Bytes) && uses(e.Kind, 'b') {
			break
		}
	}
	return ahead, number, behind
}

// Each number in a longer form, in none, and above the greatest.
func TestFormsOfNumbers(t *testing.T) {
	for _, k := range eachKind() {
		ahead, values, behind := eachPart(t, full(k))
		for i := range values {
			with := func(b []byte) []byte { return slices.Concat(ahead[i], b, behind[i]) }
			expectNotGot(t, "a longer form", with(longer(values[i])), api.ErrForm)
			expectNotGot(t, "no form", with([]byte{9}), api.ErrForm)
			expectNotGot(t, "no form", with([]byte{255, 1}), api.ErrForm)
			expectNotGot(t, "a longer 0", with([]byte{1, 0}), api.ErrForm)
			above := with(number(math.MaxInt64 + 1))
			if k == api.EventRestart && i >= 3 {
				if e, err := tape.GetEvent(above); err != api.OK || e.Draw.Hi != math.MaxInt64+1 && e.Draw.Lo != math.MaxInt64+1 {
					t.Fatal(e, err) // a draw's halves have no other most
				}
			} else {
				expectNotGot(t, "above the greatest", above, api.ErrLong)
				expectNotGot(t, "far above the greatest", with(number(math.MaxUint64)), api.ErrLong)
			}
		}
	}
}

// The first number alone tells the kind, and one that is none is told ahead of all that is behind it.
func TestNoKindInBytes(t *testing.T) {
	for _, k := range []uint64{0, 13, 14, 255, 256, 257, 1<<32 + 1, math.MaxInt64} {
		for _, tail := range [][]byte{nil, {0}, {9}, numbers(0, 0, 0, 0), {1}} {
			expectNotGot(t, "no kind", append(number(k), tail...), api.ErrEvent)
		}
	}
	for _, k := range []uint64{math.MaxInt64 + 1, math.MaxInt64 + 2, math.MaxUint64} {
		expectNotGot(t, "a kind above the greatest", number(k), api.ErrLong)
	}
	expectNotGot(t, "a kind in a longer form", []byte{2, 0, 8, 0, 0}, api.ErrForm)
}

// Any bytes, and events' bytes of which some are turned.
func TestAnyEvents(t *testing.T) {
	t.Parallel()
	r := seeded(1)
	met := make(map[api.Errno]int)
	for range 60000 {
		e := someEvent(r)
		putting(t, e)
		b, err := modelPut(e)
		if err != api.OK || r.IntN(8) == 0 {
			b = make([]byte, r.IntN(12))
			for i := range b {
				b[i] = pick(r, 0, 1, 1, 2, byte(r.IntN(13)), byte(r.IntN(256)))
			}
		}
		for range r.IntN(3) {
			if len(b) > 0 {
				b[r.IntN(len(b))] = pick(r, 0, 1, 2, 8, 9, byte(r.IntN(256)))
			}
		}
		if r.IntN(6) == 0 {
			b = b[:r.IntN(len(b)+1)]
		}
		met[getting(t, "any", b)]++
	}
	expectEnough(t, met, map[api.Errno]int{api.OK: 5000, api.ErrShort: 1000, api.ErrForm: 1000, api.ErrLong: 100, api.ErrEvent: 1000, api.ErrTail: 1000})
}
