package engine

import (
	"strconv"
	"sync"
	"testing"

	"amnesia/api"
)

// No client is ever answered that it was refused, but a result may be that.
func TestResultText(t *testing.T) {
	for want, r := range map[string]api.Result{
		"written 7 61":       {Code: api.ResWritten, Slot: 7, Value: "a"},
		"written 0 -":        {Code: api.ResWritten},
		"taken 1023 00ff":    {Code: api.ResTaken, Slot: 1023, Value: "\x00\xff"},
		"full":               {Code: api.ResFull},
		"found 3 0a":         {Code: api.ResFound, Slot: 3, Value: "\n"},
		"found 3 -":          {Code: api.ResFound, Slot: 3},
		"none 12":            {Code: api.ResNone, Slot: 12},
		"count 1024":         {Code: api.ResCount, Slot: 1024},
		"refused":            {Code: api.ResRefused},
		"written 1 c3a46100": {Code: api.ResWritten, Slot: 1, Value: "äa\x00"},
	} {
		if got := resultText(r); got != want {
			t.Errorf("%+v: %q, want %q", r, got, want)
		}
	}
}

// Each kind of events and of operations has one form, and each form one word.
func TestForms(t *testing.T) {
	words, kinds := make(map[string]int), make(map[api.EventKind]int)
	for _, f := range forms {
		words[f.word]++
		kinds[f.kind]++
	}
	if len(words) != len(forms) || kinds[0] != 5 {
		t.Error(words, kinds)
	}
	for k := api.EventSubmit; k <= api.EventQuery; k++ {
		if kinds[k] != 1 {
			t.Error(k, kinds)
		}
	}
	for k := api.OpWrite; k <= api.OpCount; k++ {
		if f, is := opFormOf(k); !is || f.kind != k {
			t.Error(k, f)
		}
	}
}

// However many take from a deal, each text is taken once, with its own place.
func TestDeal(t *testing.T) {
	var texts []string
	for i := range api.MaxRuns {
		texts = append(texts, strconv.Itoa(i))
	}
	for workers := 1; workers <= api.MaxWorkers; workers++ {
		d := dealt(texts)
		taken := make([]int, len(texts))
		var all sync.WaitGroup
		for range workers {
			all.Go(func() {
				for {
					place, text, is := d.next()
					if !is {
						return
					}
					if text != texts[place] {
						t.Error(place, text)
					}
					taken[place]++
				}
			})
		}
		all.Wait()
		for place, times := range taken {
			if times != 1 {
				t.Error(workers, place, times)
			}
		}
		if place, text, is := d.next(); place != 0 || text != "" || is {
			t.Error(place, text, is)
		}
	}
}
