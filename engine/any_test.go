package engine_test

import (
	"strings"
	"testing"

	"amnesia/api"
	"amnesia/engine"
)

// P17.1: any text, right or not, is parsed as the model says.
func TestAnyTexts(t *testing.T) {
	t.Parallel()
	met := make(map[api.Errno]int)
	for seed := range uint64(4000) {
		r := seeded(seed)
		text := someText(r, 30)
		for range r.IntN(4) {
			text = mangled(r, text)
		}
		said, line, e := modelParse(text)
		met[e]++
		if e != api.OK {
			expectWrong(t, text, line, e)
			continue
		}
		setup, events := modelSetup(said)
		expectParsed(t, text, setup, events...)
	}
	expectEnough(t, met, map[api.Errno]int{api.OK: 1000, api.ErrLine: 500, api.ErrOrder: 150})
}

// Bytes of any kind are answered.
func TestAnyBytes(t *testing.T) {
	t.Parallel()
	for seed := range uint64(3000) {
		r := seeded(10000 + seed)
		b := make([]byte, r.IntN(60))
		for i := range b {
			b[i] = pick(r, byte(r.IntN(256)), ' ', '\n', '#', 'p', 'o', 'l', '1')
		}
		text := pick(r, "", "group 1 4 6\n", head) + string(b)
		said, line, e := modelParse(text)
		if e != api.OK {
			expectWrong(t, text, line, e)
			continue
		}
		setup, events := modelSetup(said)
		expectParsed(t, text, setup, events...)
	}
}

// P17.3: any script tells what the model tells, straight from the cluster.
func TestAnyPlays(t *testing.T) {
	t.Parallel()
	met := make(map[string]int)
	for seed := range uint64(200) {
		text := someText(seeded(20000+seed), 150)
		said, _, e := modelParse(text)
		if e != api.OK {
			t.Fatal(e)
		}
		want, told := modelPlay(t, said)
		if got := played(t, text); got != want {
			t.Fatalf("seed %d: %q tells\n%s\nwant\n%s", seed, text, got, want)
		}
		for _, x := range told {
			for _, l := range modelLines(x[1]) {
				countTold(met, x[0], l)
			}
		}
	}
	expectEnough(t, met, map[string]int{
		"!": 300, "done": 500, "lead": 10, "reply": 100, "told": 100, "down": 200, "up": 100, "back": 10, "sent": 2000, "gone": 100,
		"normal": 200, "changing": 20, "recovering": 20, "vector": 400, "cell": 50, "waits": 50, "none": 50, "answer": 50, "seen": 200, "pool": 100,
		"few": 50, "fresh": 5, "genuine": 20, "sequence": 100,
		"written": 50, "taken": 5, "full": 5, "found": 10, "count": 50,
	})
}

// countTold: which of the things that are told a line is; of the judge's only those that are broken.
func countTold(met map[string]int, question, line string) {
	words := strings.Split(line, " ")
	switch words[0] {
	case "few", "fresh", "genuine", "fault":
		if words[1] != "-" {
			met[words[0]]++
		}
		return
	case "client":
		if words[2] != "waits" && (words[2] != "none" || len(words) > 3) {
			met["answer"]++
		} else {
			met[words[2]]++
		}
		return
	case "reply":
		met[words[3]]++
	case "told":
		met[words[5]]++
	}
	met[words[0]]++
}

// Questions change nothing: without them the events tell the same, and a question tells the same whatever else was asked.
func TestQuestionsChangeNothing(t *testing.T) {
	t.Parallel()
	for seed := range uint64(60) {
		r := seeded(30000 + seed)
		said, _, _ := modelParse(someText(r, 100))
		var quiet, loud []string
		for _, words := range said {
			line := strings.Join(words, " ")
			_, isEvent := modelEvent(words)
			isHead := words[0] == "group" || words[0] == "client"
			if isEvent || isHead {
				quiet = append(quiet, line)
			}
			loud = append(loud, line)
			for !isHead && r.IntN(2) == 0 {
				loud = append(loud, pick(r, "look 0", "look 1", "cells 2", "ask 0", "pool", "judge", "look 9"))
			}
		}
		for _, q := range []string{"look 0", "look 1", "cells 0", "ask 0", "pool", "judge"} {
			a, b := behind(t, lines(append(quiet, q)...)), behind(t, lines(append(loud, q)...))
			if strings.Join(a, "|") != strings.Join(b, "|") {
				t.Fatal(q, a, b)
			}
		}
		if a, b := eventsTold(t, lines(quiet...)), eventsTold(t, lines(loud...)); a != b {
			t.Fatalf("%s\nand with questions\n%s", a, b)
		}
	}
}

// eventsTold: a report without its questions.
func eventsTold(t *testing.T, text string) string {
	t.Helper()
	kept, is := "", false
	for _, l := range modelLines(played(t, text)) {
		if words, isLine := strings.CutPrefix(l, "> "); isLine {
			_, is = modelEvent(strings.Split(words, " "))
		}
		if is {
			kept += l + "\n"
		}
	}
	return kept
}

// A report has one line with > for each event and each question, in their order, with the words as they stand there.
func TestWordsAreToldAgain(t *testing.T) {
	t.Parallel()
	for seed := range uint64(200) {
		text := someText(seeded(40000+seed), 60)
		var want []string
		said, _, _ := modelParse(text)
		for _, words := range said {
			if words[0] != "group" && words[0] != "client" {
				want = append(want, "> "+strings.Join(words, " "))
			}
		}
		var got []string
		for _, l := range modelLines(played(t, text)) {
			if strings.HasPrefix(l, ">") {
				got = append(got, l)
			}
		}
		if strings.Join(got, "\n") != strings.Join(want, "\n") {
			t.Fatal(got, want)
		}
	}
	expectReport(t, head+"   deliver   0    cut 0  \n tick 1", "> deliver 0 cut 0", "> tick 1")
}

// What Parse and Play answer is the same each time.
func TestTheSameEachTime(t *testing.T) {
	t.Parallel()
	for seed := range uint64(60) {
		r := seeded(50000 + seed)
		a, b := someText(r, 80), someText(r, 80)
		first := played(t, a)
		played(t, b)
		if again := played(t, strings.Clone(a)); again != first {
			t.Fatal(first, again)
		}
		s, l, _, _ := engine.Parse(a)
		engine.Parse(b)
		expectParsed(t, strings.Clone(a), s, l...)
	}
}
