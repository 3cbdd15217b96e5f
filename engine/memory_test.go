package engine_test

import (
	"math/rand/v2"
	"reflect"
	"slices"
	"strings"
	"testing"
	"unsafe"

	"amnesia/api"
	"amnesia/engine"
)

// P17.5, P2 of DOC.md: whose memory is whose.

// roomy: a list with something in the room behind its end.
func roomy[T any](l []T, behind T) []T {
	long := append(slices.Clone(l), behind, behind)
	return long[:len(l)]
}

// whole: a list with what is in the room behind its end.
func whole[T any](l []T) []T { return l[:cap(l)] }

// loose: a text in memory that can be written over, and that memory.
func loose(text string) (string, []byte) {
	b := append([]byte(text), 0)[:len(text)]
	return unsafe.String(unsafe.SliceData(b), len(b)), b
}

func spoil(b []byte) {
	for i := range b {
		b[i] ^= 0x55
	}
}

// handed: events in memory of their own, each list with something in the room behind it; and the memory of their values.
func handed(events []api.Event) ([]api.Event, [][]byte) {
	marked := roomy(events, api.Event{Kind: 77, Node: -5})
	var values [][]byte
	for i := range marked {
		marked[i].Bytes = roomy(events[i].Bytes, 0xa5)
		value, b := loose(events[i].Op.Value)
		marked[i].Op.Value, values = value, append(values, b)
	}
	return marked, values
}

// allOf: a copy of all that is in events and behind them.
func allOf(events []api.Event) []api.Event {
	all := slices.Clone(whole(events))
	for i := range all {
		all[i].Bytes, all[i].Op.Value = slices.Clone(whole(all[i].Bytes)), strings.Clone(all[i].Op.Value)
	}
	return all
}

func overwrite(s api.Setup, events []api.Event) {
	for i := range whole(s.Clients) {
		whole(s.Clients)[i].Number = 66
	}
	for i := range whole(events) {
		spoil(whole(whole(events)[i].Bytes))
		whole(events)[i] = api.Event{Kind: 44, Node: -4, Bytes: whole(events)[i].Bytes}
	}
}

func someHanded(r *rand.Rand) (api.Setup, []api.Event, [][]byte) {
	s := someSetup(r)
	s.Clients = roomy(s.Clients, api.ClientSetup{Number: -9})
	events, values := handed(someEvents(r, 20))
	return s, events, values
}

func TestWhatIsHandedToPrintStays(t *testing.T) {
	t.Parallel()
	for seed := range uint64(300) {
		s, events, values := someHanded(seeded(100000 + seed))
		all, clients := allOf(events), slices.Clone(whole(s.Clients))
		text := printed(t, s, events...)
		if !reflect.DeepEqual(allOf(events), all) || !slices.Equal(whole(s.Clients), clients) {
			t.Fatal("something was changed:", seed)
		}
		kept := strings.Clone(text)
		overwrite(s, events)
		for _, b := range values {
			spoil(b)
		}
		if text != kept {
			t.Fatal("what was printed has changed:", seed)
		}
	}
}

// What Parse answers hangs on the text no more, and shares nothing: each list is written over by itself, with its room, and the others stay.
func TestParseAnswersNewMemory(t *testing.T) {
	t.Parallel()
	for seed := range uint64(150) {
		r := seeded(110000 + seed)
		s, events := someSetup(r), someEvents(r, 12)
		text, memory := loose(printed(t, s, events...))
		gotSetup, got, _, _ := engine.Parse(text)
		otherSetup, other, _, _ := engine.Parse(text)
		if string(memory) != printed(t, s, events...) {
			t.Fatal("the text was changed:", seed)
		}
		spoil(memory)
		overwrite(otherSetup, other)
		if !sameSetup(gotSetup, s) || !sameEvents(got, events) {
			t.Fatal("what was answered has changed:", seed)
		}
		for i := range got {
			spoil(whole(got[i].Bytes))
			for k := range got {
				if k != i && !sameEvent(got[k], events[k]) {
					t.Fatal("two lists share memory:", seed, i, k)
				}
			}
			spoil(whole(got[i].Bytes))
		}
		overwrite(gotSetup, nil)
		if !sameEvents(got, events) {
			t.Fatal("clients and events share memory:", seed)
		}
		overwrite(gotSetup, got)
		expectParsed(t, printed(t, s, events...), s, events...)
	}
}

// Reports are in memory of their own.
func TestPlayAnswersNewMemory(t *testing.T) {
	t.Parallel()
	for seed := range uint64(60) {
		script := someText(seeded(120000+seed), 60)
		text, memory := loose(script)
		report, _, e := engine.Play(text)
		if e != api.OK || string(memory) != script {
			t.Fatal(e, "or the text was changed:", seed)
		}
		kept := strings.Clone(report)
		spoil(memory)
		if report != kept {
			t.Fatal("the report has changed:", seed)
		}
	}
}

func TestBatchAnswersNewMemory(t *testing.T) {
	t.Parallel()
	scripts := someTexts(130000, 20)
	want := alone(scripts)
	var texts []string
	var memory [][]byte
	for _, s := range scripts {
		text, b := loose(s)
		texts, memory = append(texts, text), append(memory, b)
	}
	texts = roomy(texts, "behind")
	before := slices.Clone(whole(texts))
	got, _ := engine.Batch(texts, 5)
	other, _ := engine.Batch(texts, 7)
	if !slices.Equal(whole(texts), before) || !slices.Equal(texts, scripts) {
		t.Fatal("the texts were changed")
	}
	for i := range whole(other) {
		whole(other)[i] = api.Outcome{Report: "mine", Line: 4}
	}
	for i, b := range memory {
		spoil(b)
		whole(texts)[i] = "other"
	}
	if !slices.Equal(got, want) {
		t.Fatal("what was answered has changed")
	}
}

// nil and empty lists are the same.
func TestNilAndEmpty(t *testing.T) {
	a := printed(t, api.Setup{Config: three}, api.Event{Kind: api.EventInject, At: 1})
	b := printed(t, api.Setup{Config: three, Clients: []api.ClientSetup{}}, api.Event{Kind: api.EventInject, At: 1, Bytes: []byte{}})
	if a != b || a != "group 1 4 6\ninject 1 0 -\n" {
		t.Error(a, b)
	}
	none, e := engine.Print(threeSetup, nil)
	empty, errno := engine.Print(threeSetup, []api.Event{})
	if none != empty || e != errno || none != head {
		t.Error(none, empty, e, errno)
	}
}
