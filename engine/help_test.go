package engine_test

import (
	"bytes"
	"encoding/hex"
	"math"
	"math/rand/v2"
	"reflect"
	"slices"
	"strings"
	"testing"

	"amnesia/api"
	"amnesia/engine"
	"amnesia/message"
)

// head: the chapter's group with two clients.
const head = "group 1 4 6\nclient 0\nclient 5\n"

var (
	three      = api.Config{F: 1, Room: 4, Patience: 6}
	threeSetup = setupOf(three, 0, 5)
)

// setupOf: a group with clients whose last requests have these numbers.
func setupOf(c api.Config, numbers ...int) api.Setup {
	s := api.Setup{Config: c}
	for _, n := range numbers {
		s.Clients = append(s.Clients, api.ClientSetup{Number: n})
	}
	return s
}

func lines(l ...string) string { return strings.Join(l, "\n") + "\n" }

func lo(n uint64) api.Draw { return api.Draw{Lo: n} }

func write(slot int, value string) api.Op {
	return api.Op{Kind: api.OpWrite, Slot: slot, Value: value}
}

func add(value string) api.Op { return api.Op{Kind: api.OpAppend, Value: value} }

func read(slot int) api.Op { return api.Op{Kind: api.OpRead, Slot: slot} }

var count = api.Op{Kind: api.OpCount}

func frame(t *testing.T, c api.Config, m api.Msg) []byte {
	t.Helper()
	b, e := message.Encode(c, m)
	if e != api.OK {
		t.Fatalf("the test's own message may not be: %d: %+v", e, m)
	}
	return b
}

// injected: the line that makes up a packet with that message.
func injected(t *testing.T, c api.Config, m api.Msg, from, to string) string {
	t.Helper()
	return "inject " + from + " " + to + " " + hex.EncodeToString(frame(t, c, m))
}

func sameEvent(a, b api.Event) bool {
	if !bytes.Equal(a.Bytes, b.Bytes) {
		return false
	}
	a.Bytes, b.Bytes = nil, nil
	return reflect.DeepEqual(a, b)
}

func sameEvents(a, b []api.Event) bool { return slices.EqualFunc(a, b, sameEvent) }

func sameSetup(a, b api.Setup) bool {
	return a.Config == b.Config && slices.Equal(a.Clients, b.Clients)
}

// short: a text as far as it is good for a message.
func short(text string) string {
	if len(text) > 400 {
		return text[:400] + " .."
	}
	return text
}

// expectParsed: Parse takes the text, with that setup and these events.
func expectParsed(t *testing.T, text string, setup api.Setup, events ...api.Event) {
	t.Helper()
	s, l, line, e := engine.Parse(text)
	if e != api.OK || line != 0 || !sameSetup(s, setup) || !sameEvents(l, events) {
		t.Fatalf("%q: %+v, %+v, %d, %d", short(text), s, l, line, e)
	}
}

// expectWrong: Parse and Play refuse the text, at that line, and answer nothing beside.
func expectWrong(t *testing.T, text string, line int, want api.Errno) {
	t.Helper()
	s, l, at, e := engine.Parse(text)
	if e != want || at != line || !sameSetup(s, api.Setup{}) || len(l) != 0 {
		t.Fatalf("Parse %q: %+v, %+v, %d, %d, want %d, %d", short(text), s, l, at, e, line, want)
	}
	if r, at, e := engine.Play(text); e != want || at != line || r != "" {
		t.Fatalf("Play %q: %q, %d, %d, want %d, %d", short(text), r, at, e, line, want)
	}
}

func played(t *testing.T, text string) string {
	t.Helper()
	r, line, e := engine.Play(text)
	if e != api.OK || line != 0 {
		t.Fatalf("%q: %q, %d, %d", short(text), r, line, e)
	}
	return r
}

// expectReport: the report of a text, line by line. A line that ends with .. is asked up to there.
func expectReport(t *testing.T, text string, want ...string) {
	t.Helper()
	report := played(t, text)
	got := strings.Split(report, "\n")
	if got[len(got)-1] != "" {
		t.Fatalf("a last line that does not end: %q", report)
	}
	got = got[:len(got)-1]
	same := func(a, b string) bool {
		begin, cut := strings.CutSuffix(b, "..")
		return a == b || cut && strings.HasPrefix(a, begin) && !strings.Contains(a[len(begin):], " ")
	}
	if !slices.EqualFunc(got, want, same) {
		t.Fatalf("%q tells\n%s\nwant\n%s", short(text), report, lines(want...))
	}
}

// behind: what a text's last line tells, its words left out.
func behind(t *testing.T, text string) []string {
	t.Helper()
	report := played(t, text)
	last := report[strings.LastIndex("\n"+report, "\n> "):]
	return strings.Split(strings.TrimSuffix(last, "\n"), "\n")[1:]
}

// expectTold: what a text's last line tells.
func expectTold(t *testing.T, text string, want ...string) {
	t.Helper()
	if got := behind(t, text); !slices.Equal(got, want) {
		t.Fatalf("%q tells %q, want %q", short(text), got, want)
	}
}

func seeded(seed uint64) *rand.Rand { return rand.New(rand.NewPCG(seed, 17)) }

func pick[T any](r *rand.Rand, l ...T) T { return l[r.IntN(len(l))] }

// expectEnough: what was met in all runs of a test is not too little.
func expectEnough[K comparable](t *testing.T, met, least map[K]int) {
	t.Helper()
	for what, n := range least {
		if met[what] < n {
			t.Error("too few:", what, met)
		}
	}
}

// Configurations that may not be, each for one reason.
func wrongConfigs() []api.Config {
	return []api.Config{
		{}, {F: 0, Room: 6, Patience: 9}, {F: 4, Room: 6, Patience: 9}, {F: -1, Room: 6, Patience: 9},
		{F: 2, Room: 0, Patience: 9}, {F: 2, Room: 257, Patience: 9}, {F: 2, Room: -6, Patience: 9},
		{F: 2, Room: 6, Patience: 5}, {F: 2, Room: 6, Patience: 101}, {F: 2, Room: 6, Patience: -9, Unguarded: true},
		{F: math.MinInt, Room: 6, Patience: 9}, {F: math.MaxInt, Room: 6, Patience: 9},
	}
}

// Operations that chapter 4 refuses.
func wrongOps() []api.Op {
	return []api.Op{
		{}, {Kind: 5}, {Kind: -1}, {Kind: math.MaxInt}, {Kind: math.MinInt}, write(-1, ""), write(1024, "a"), write(0, string(make([]byte, 65))),
		{Kind: api.OpAppend, Slot: 1, Value: "a"}, {Kind: api.OpAppend, Value: string(make([]byte, 65))}, {Kind: api.OpAppend, Slot: -1},
		read(-1), read(1024), {Kind: api.OpRead, Slot: 1, Value: "a"}, {Kind: api.OpCount, Slot: 1}, {Kind: api.OpCount, Value: "a"}, {Kind: api.OpCount, Slot: -1},
	}
}
