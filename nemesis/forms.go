package nemesis

import (
	"strconv"
	"strings"

	"amnesia/api"
	"amnesia/core"
)

// The first words of lines, and what else is no number.
const (
	groupWord     = "group"
	unguardedWord = "unguarded"
	clientWord    = "client"
	faultWord     = "fault"
	splitWord     = "split"
	healWord      = "heal"
	clockWord     = "clock"
	loadWord      = "load"
	runWord       = "run"
	churnWord     = "churn"
	crashWord     = "crash"
	restartWord   = "restart"
	staleWord     = "stale"
	calmWord      = "calm"
)

// Bounds of a plan's numbers that are this layer's own.
const (
	hundred = 100 // what shares are of
	maxRate = 9   // ticks of a round
	maxLoad = 100 // times
)

// field is what a number of a line stands for.
type field int

const (
	shareField field = iota // of a hundred; those of a line make one
	nodeField               // a replica; those of a line are unlike
	rateField
	timesField
	stepsField // rounds of the plan's own, of which there are so many in all
	countField // rounds of one event
)

// form is how lines with a first word are written.
type form struct {
	word   string
	fields []field // of its numbers
	many   bool    // the last one may stand more than once
}

// forms: those of all lines but the head's.
var forms = [...]form{
	{word: faultWord, fields: []field{shareField, shareField, shareField, shareField}},
	{word: splitWord, fields: []field{nodeField}, many: true},
	{word: healWord},
	{word: clockWord, fields: []field{nodeField, rateField}},
	{word: loadWord, fields: []field{timesField}},
	{word: runWord, fields: []field{stepsField}},
	{word: churnWord, fields: []field{shareField, stepsField}},
	{word: crashWord, fields: []field{nodeField}},
	{word: restartWord, fields: []field{nodeField}},
	{word: staleWord, fields: []field{nodeField}},
	{word: calmWord, fields: []field{countField}},
}

// formNamed: the form with that first word; false: there is none.
func formNamed(word string) (form, bool) {
	for _, f := range forms {
		if f.word == word {
			return f, true
		}
	}
	return form{}, false
}

// has: may so many numbers stand in a line?
func (f form) has(numbers int) bool {
	return numbers == len(f.fields) || f.many && numbers > len(f.fields)
}

// field: what the number in a place of a line, from 0 on, stands for.
func (f form) field(place int) field { return f.fields[min(place, len(f.fields)-1)] }

// bounds: the least and the greatest number that may stand for it.
func (f field) bounds(c api.Config) (least, greatest int) {
	switch f {
	case shareField:
		return 0, hundred
	case nodeField:
		return 0, core.Nodes(c) - 1
	case rateField:
		return 0, maxRate
	case timesField:
		return 1, maxLoad
	}
	return 1, api.MaxSteps
}

// mayBe: may a line's numbers be, whatever the others are?
func (l line) mayBe(c api.Config) bool {
	shares := 0
	var named [api.MaxNodes]bool
	for place, n := range l.numbers {
		f := l.form.field(place)
		if least, greatest := f.bounds(c); n < least || n > greatest {
			return false
		}
		switch f {
		case shareField:
			shares += n
		case nodeField:
			if named[n] {
				return false
			}
			named[n] = true
		}
	}
	return shares <= hundred
}

// steps: how many rounds of the plan's own a line has.
func (l line) steps() int {
	steps := 0
	for place, n := range l.numbers {
		if l.form.field(place) == stepsField {
			steps += n
		}
	}
	return steps
}

// wordsOf: what stands between a line's blanks, which are spaces and nothing else.
func wordsOf(line string) []string {
	return strings.FieldsFunc(line, func(r rune) bool { return r == ' ' })
}

// numbersOf: the numbers that words are; false: one of them is none. Each number has one form alone, the one that strconv gives it; no int is above MaxNumber.
func numbersOf(words []string) ([]int, bool) {
	var numbers []int
	for _, word := range words {
		n, err := strconv.Atoi(word)
		if err != nil || n < 0 || strconv.Itoa(n) != word {
			return nil, false
		}
		numbers = append(numbers, n)
	}
	return numbers, true
}
