package nemesis

import (
	"strings"

	"amnesia/api"
	"amnesia/cluster"
)

// trouble is what a plan says.
type trouble struct {
	setup api.Setup
	lines []line // behind the head
	begun bool   // a group has come
}

// line is a plan's line behind its head.
type line struct {
	number  int // from 1 on, what says nothing counted too
	form    form
	numbers []int
}

// troubleOf: what a plan that may be says; or the number of the first line that is wrong, and how.
func troubleOf(plan string) (trouble, int, api.Errno) {
	t, number, e := read(plan)
	if e != api.OK {
		return trouble{}, number, e
	}
	if _, e := cluster.New(t.setup); e != api.OK {
		return trouble{}, 0, e
	}
	if number, is := t.overspent(); is {
		return trouble{}, number, api.ErrBudget
	}
	return t, 0, api.OK
}

// read: what a plan says, whatever its numbers are.
func read(plan string) (trouble, int, api.Errno) {
	var t trouble
	if len(plan) > api.MaxText {
		return trouble{}, 0, api.ErrText
	}
	number := 1
	for ; plan != ""; number++ {
		if number > api.MaxLines {
			return trouble{}, number, api.ErrText
		}
		var first string
		first, plan, _ = strings.Cut(plan, "\n")
		if e := t.takes(number, wordsOf(first)); e != api.OK {
			return trouble{}, number, e
		}
	}
	if !t.begun {
		return trouble{}, number, api.ErrOrder
	}
	return t, 0, api.OK
}

// takes: a line by its words; it may say nothing.
func (t *trouble) takes(number int, words []string) api.Errno {
	if len(words) == 0 || strings.HasPrefix(words[0], "#") {
		return api.OK
	}
	switch words[0] {
	case groupWord:
		return t.takesGroup(words[1:])
	case clientWord:
		return t.takesClient(words[1:])
	}
	f, is := formNamed(words[0])
	numbers, right := numbersOf(words[1:])
	switch {
	case !is || !right || !f.has(len(numbers)):
		return api.ErrPlan
	case !t.begun:
		return api.ErrOrder
	}
	t.lines = append(t.lines, line{number, f, numbers})
	return api.OK
}

func (t *trouble) takesGroup(words []string) api.Errno {
	last := len(words) - 1
	unguarded := last >= 0 && words[last] == unguardedWord
	if unguarded {
		words = words[:last]
	}
	numbers, right := numbersOf(words)
	switch {
	case !right || len(numbers) != 3:
		return api.ErrPlan
	case t.begun:
		return api.ErrOrder
	}
	t.begun = true
	t.setup.Config = api.Config{F: numbers[0], Room: numbers[1], Patience: numbers[2], Unguarded: unguarded}
	return api.OK
}

func (t *trouble) takesClient(words []string) api.Errno {
	numbers, right := numbersOf(words)
	switch {
	case !right || len(numbers) != 1:
		return api.ErrPlan
	case !t.begun || len(t.lines) > 0:
		return api.ErrOrder
	}
	t.setup.Clients = append(t.setup.Clients, api.ClientSetup{Number: numbers[0]})
	return api.OK
}

// overspent: the number of the first line that asks for what there isn't, or for more rounds than are left. The group must be one that may be.
func (t *trouble) overspent() (int, bool) {
	left := api.MaxSteps
	for _, l := range t.lines {
		if !l.mayBe(t.setup.Config) {
			return l.number, true
		}
		left -= l.steps()
		if left < 0 {
			return l.number, true
		}
	}
	return 0, false
}
