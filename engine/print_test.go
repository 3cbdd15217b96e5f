package engine_test

import (
	"math"
	"strings"
	"testing"

	"amnesia/api"
	"amnesia/engine"
)

func printed(t *testing.T, s api.Setup, events ...api.Event) string {
	t.Helper()
	text, e := engine.Print(s, events)
	if e != api.OK {
		t.Fatalf("%d: %+v, %+v", e, s, events)
	}
	return text
}

func expectPrinted(t *testing.T, s api.Setup, want string, events ...api.Event) {
	t.Helper()
	if got := printed(t, s, events...); got != want {
		t.Fatalf("%q, want %q", short(got), short(want))
	}
}

func expectUnprinted(t *testing.T, s api.Setup, want api.Errno, events ...api.Event) {
	t.Helper()
	if text, e := engine.Print(s, events); e != want || text != "" {
		t.Fatalf("%q, %d, want %d: %+v, %+v", short(text), e, want, s, events)
	}
}

func TestPrintHead(t *testing.T) {
	expectPrinted(t, setupOf(three), "group 1 4 6\n")
	expectPrinted(t, setupOf(api.Config{F: 3, Room: 256, Patience: 100, Unguarded: true}), "group 3 256 100 unguarded\n")
	expectPrinted(t, setupOf(api.Config{F: 1, Room: 1, Patience: 6}, 0, 9, math.MaxInt), "group 1 1 6\nclient 0\nclient 9\nclient "+greatest+"\n")
	expectPrinted(t, api.Setup{Config: three, Clients: make([]api.ClientSetup, 16)}, "group 1 4 6\n"+strings.Repeat("client 0\n", 16))
	expectPrinted(t, api.Setup{Config: three, Clients: []api.ClientSetup{}}, "group 1 4 6\n", []api.Event{}...)
	if text, e := engine.Print(setupOf(three, 2), nil); e != api.OK || text != "group 1 4 6\nclient 2\n" {
		t.Error(text, e)
	}
}

// ErrConfig, then ErrSetup, then ErrEvent.
func TestPrintOrderOfErrors(t *testing.T) {
	bad := api.Event{Kind: 99}
	var tooMany []int
	for range 17 {
		tooMany = append(tooMany, 0)
	}
	for _, c := range wrongConfigs() {
		expectUnprinted(t, setupOf(c), api.ErrConfig)
		expectUnprinted(t, setupOf(c, -1), api.ErrConfig, bad)
		expectUnprinted(t, setupOf(c, tooMany...), api.ErrConfig, oneTick)
	}
	for _, numbers := range [][]int{{-1}, {0, -1}, {math.MinInt, 0}, tooMany, append(tooMany, -1)} {
		expectUnprinted(t, setupOf(three, numbers...), api.ErrSetup)
		expectUnprinted(t, setupOf(three, numbers...), api.ErrSetup, oneTick, bad)
	}
	expectUnprinted(t, setupOf(three, tooMany[:16]...), api.ErrEvent, bad)
	expectUnprinted(t, threeSetup, api.ErrEvent, oneTick, oneTick, bad)
	expectUnprinted(t, threeSetup, api.ErrEvent, bad, oneTick)
}

func TestPrintKinds(t *testing.T) {
	for _, k := range []int{0, 13, 14, -1, 100, 127, 128, 255, 256, 257, 1 << 31, 1 << 32, 1<<32 + 1, math.MaxInt, math.MinInt} {
		expectUnprinted(t, threeSetup, api.ErrEvent, api.Event{Kind: api.EventKind(k), Count: 1, Op: count})
	}
}

// Each of the lines that Parse is asked for, but for what no line says of ops and bytes; and all of them together.
func TestPrintEachLine(t *testing.T) {
	text := head
	var all []api.Event
	for _, x := range saids() {
		usesOp := x.event.Kind == api.EventSubmit || x.event.Kind == api.EventQuery
		if usesOp && (x.event.Op.Slot >= api.MaxSlots || len(x.event.Op.Value) > api.MaxValue) || len(x.event.Bytes) > api.MaxFrame {
			expectUnprinted(t, threeSetup, api.ErrEvent, x.event)
			continue
		}
		line := strings.ReplaceAll(x.line, " cut 0", "") + "\n"
		expectPrinted(t, threeSetup, head+line, x.event)
		expectPrinted(t, setupOf(three), "group 1 4 6\n"+line+line, x.event, x.event)
		text, all = text+line, append(all, x.event)
	}
	expectPrinted(t, threeSetup, text, all...)
}

// numbered: the numbers that an event may use, by their names.
func numbered() map[string]func(*api.Event) *int {
	return map[string]func(*api.Event) *int{
		"Node": func(e *api.Event) *int { return &e.Node }, "Client": func(e *api.Event) *int { return &e.Client },
		"Index": func(e *api.Event) *int { return &e.Index }, "At": func(e *api.Event) *int { return &e.At },
		"Count": func(e *api.Event) *int { return &e.Count }, "Cut": func(e *api.Event) *int { return &e.Cut },
	}
}

// uses: what each kind uses, as chapter 15's table has it.
var uses = map[api.EventKind]string{
	api.EventSubmit: "Client, Op", api.EventRetry: "Client", api.EventDeliver: "Index, Cut", api.EventDrop: "Index", api.EventCopy: "Index",
	api.EventSpoil: "Index, At, Count", api.EventInject: "Node, At, Bytes", api.EventTick: "Node, Cut", api.EventCrash: "Node",
	api.EventRestart: "Node, Draw, Cut", api.EventQuery: "Client, Node, Op", api.EventRound: "Count",
}

func plain(k api.EventKind) api.Event {
	return api.Event{Kind: k, Node: 1, Client: 2, Index: 3, At: 4, Count: 5, Cut: 6, Draw: lo(7), Op: read(8), Bytes: []byte("9")}
}

// Each number of each kind at its ends.
func TestPrintNumbers(t *testing.T) {
	for k, used := range uses {
		for name, at := range numbered() {
			for _, n := range []int{0, 1, 9, 10, 1000, math.MaxInt - 1, math.MaxInt} {
				e := plain(k)
				*at(&e) = n
				expectPrinted(t, threeSetup, head+modelLine(e)+"\n", e)
			}
			for _, n := range []int{-1, -2, -1 << 32, math.MinInt + 1, math.MinInt} {
				e := plain(k)
				*at(&e) = n
				if strings.Contains(used, name) {
					expectUnprinted(t, threeSetup, api.ErrEvent, e)
				} else {
					expectPrinted(t, threeSetup, head+modelLine(e)+"\n", e)
				}
			}
		}
	}
}

// What a kind does not use is not looked at.
func TestPrintUnusedFields(t *testing.T) {
	for k, used := range uses {
		e := plain(k)
		want := head + modelLine(e) + "\n"
		if !strings.Contains(used, "Op") {
			for _, op := range append(wrongOps(), count) {
				e.Op = op
				expectPrinted(t, threeSetup, want, e)
			}
		}
		if !strings.Contains(used, "Bytes") {
			for _, n := range []int{0, api.MaxFrame + 1} {
				e.Bytes = make([]byte, n)
				expectPrinted(t, threeSetup, want, e)
			}
		}
		if !strings.Contains(used, "Draw") {
			e.Draw = api.Draw{Hi: math.MaxUint64, Lo: 3}
			expectPrinted(t, threeSetup, want, e)
		}
	}
}

func TestPrintCuts(t *testing.T) {
	for _, x := range []struct {
		event api.Event
		line  string
	}{
		{api.Event{Kind: api.EventDeliver, Index: 3}, "deliver 3"}, {api.Event{Kind: api.EventTick, Node: 2}, "tick 2"}, {api.Event{Kind: api.EventRestart, Node: 1, Draw: lo(4)}, "restart 1 0.4"},
	} {
		expectPrinted(t, threeSetup, head+x.line+"\n", x.event)
		for _, cut := range []int{1, 2, math.MaxInt} {
			e := x.event
			e.Cut = cut
			expectPrinted(t, threeSetup, head+modelLine(e)+"\n", e)
			if !strings.HasPrefix(modelLine(e), x.line+" cut ") {
				t.Fatal(modelLine(e))
			}
		}
		for _, cut := range []int{-1, math.MinInt} {
			e := x.event
			e.Cut = cut
			expectUnprinted(t, threeSetup, api.ErrEvent, e)
		}
	}
}

func TestPrintBytes(t *testing.T) {
	all := make([]byte, 256)
	for i := range all {
		all[i] = byte(i)
	}
	e := api.Event{Kind: api.EventInject, Node: 1, At: 7}
	for _, b := range [][]byte{nil, {}, {0}, {0xab}, all, make([]byte, api.MaxFrame-1), make([]byte, api.MaxFrame)} {
		e.Bytes = b
		expectPrinted(t, threeSetup, head+"inject 7 1 "+hexOf(string(b))+"\n", e)
	}
	for _, n := range []int{api.MaxFrame + 1, api.MaxFrame + 2, 1 << 20} {
		e.Bytes = make([]byte, n)
		expectUnprinted(t, threeSetup, api.ErrEvent, e)
	}
}

func TestPrintOps(t *testing.T) {
	full := string(make([]byte, 64))
	for _, op := range []api.Op{write(0, ""), write(1023, full), write(7, "\xff\n"), add(""), add(full), add("a"), read(0), read(1023), count} {
		expectPrinted(t, threeSetup, head+"submit 1 "+modelOpText(op)+"\n", api.Event{Kind: api.EventSubmit, Client: 1, Op: op})
		e := api.Event{Kind: api.EventQuery, Client: 1, Node: 2, Op: op}
		if op.Kind == api.OpRead || op.Kind == api.OpCount {
			expectPrinted(t, threeSetup, head+"query 1 2 "+modelOpText(op)+"\n", e)
		} else { // a line says queries of reads and counts alone
			expectUnprinted(t, threeSetup, api.ErrEvent, e)
		}
	}
	for _, op := range wrongOps() {
		expectUnprinted(t, threeSetup, api.ErrEvent, api.Event{Kind: api.EventSubmit, Op: op})
		expectUnprinted(t, threeSetup, api.ErrEvent, api.Event{Kind: api.EventQuery, Op: op})
	}
}

func TestPrintDraws(t *testing.T) {
	for _, d := range []api.Draw{{}, lo(5), {Hi: 1}, {Hi: math.MaxUint64, Lo: math.MaxUint64}, {Hi: 17, Lo: 3}} {
		expectPrinted(t, threeSetup, head+"restart 0 "+drawText(d)+"\n", api.Event{Kind: api.EventRestart, Draw: d})
	}
}

// P17.2: Parse of Print is the setup and the events.
func TestParseOfPrint(t *testing.T) {
	t.Parallel()
	for seed := range uint64(1500) {
		r := seeded(60000 + seed)
		s, events := someSetup(r), someEvents(r, 40)
		text := modelHead(s)
		for _, e := range events {
			text += modelLine(e) + "\n"
		}
		expectPrinted(t, s, text, events...)
		expectParsed(t, text, s, events...)
	}
}

// Fields that kinds do not use come back as zeros.
func TestUnusedFieldsComeBackAsZeros(t *testing.T) {
	t.Parallel()
	for seed := range uint64(500) {
		r := seeded(70000 + seed)
		s, events := someSetup(r), someEvents(r, 20)
		odd := append([]api.Event(nil), events...)
		for i := range odd {
			used := uses[odd[i].Kind]
			for name, at := range numbered() {
				if !strings.Contains(used, name) {
					*at(&odd[i]) = pick(r, -1, 1, math.MaxInt, math.MinInt)
				}
			}
			if !strings.Contains(used, "Op") {
				odd[i].Op = pick(r, wrongOps()...)
			}
			if !strings.Contains(used, "Draw") {
				odd[i].Draw = someDraw(r)
			}
			if !strings.Contains(used, "Bytes") {
				odd[i].Bytes = make([]byte, pick(r, 1, api.MaxFrame+1))
			}
		}
		expectParsed(t, printed(t, s, odd...), s, events...)
	}
}

// P17.2: what Parse takes, Print prints, if its setup and events are such; and Parse takes that again, as the same. Printed once more it is the same text.
func TestPrintOfParse(t *testing.T) {
	t.Parallel()
	for seed := range uint64(1500) {
		text := someText(seeded(80000+seed), 60)
		s, events, _, e := engine.Parse(text)
		if e != api.OK {
			t.Fatal(e)
		}
		again := printed(t, s, events...)
		expectParsed(t, again, s, events...)
		expectPrinted(t, s, again, events...)
	}
	for _, x := range saids() { // numbers that the run alone looks at
		s, events, _, _ := engine.Parse(head + x.line)
		if again, e := engine.Print(s, events); e == api.OK {
			expectParsed(t, again, s, x.event)
		} else if e != api.ErrEvent {
			t.Fatal(x, e)
		}
	}
}

// What is printed may be too long for Parse: Print prints it all the same.
func TestPrintedTooLong(t *testing.T) {
	many := make([]api.Event, api.MaxLines-3)
	for i := range many {
		many[i] = oneTick
	}
	expectParsed(t, printed(t, threeSetup, many...), threeSetup, many...)
	many = append(many, oneTick)
	expectWrong(t, printed(t, threeSetup, many...), api.MaxLines+1, api.ErrText)
	big := make([]api.Event, 16) // of 2 * MaxFrame and 12 bytes each: 2^20 and some
	for i := range big {
		big[i] = api.Event{Kind: api.EventInject, Bytes: make([]byte, api.MaxFrame)}
	}
	expectWrong(t, printed(t, threeSetup, big...), 0, api.ErrText)
	expectParsed(t, printed(t, threeSetup, big[:15]...), threeSetup, big[:15]...)
}
