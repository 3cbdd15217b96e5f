package engine

import (
	"strings"

	"amnesia/api"
)

// line is what an event's or a question's line says.
type line struct {
	words []string
	form  form
	event api.Event
}

// script is a text as far as it was read.
type script struct {
	setup  api.Setup
	lines  []line // behind the head
	begun  bool   // a group has come
	judges int    // how many of the lines ask for the judge
}

// read: what a text says; or the number of the first line that is wrong, and how.
func read(text string) (script, int, api.Errno) {
	var s script
	if len(text) > api.MaxText {
		return script{}, 0, api.ErrText
	}
	number := 1
	for ; text != ""; number++ {
		if number > api.MaxLines {
			return script{}, number, api.ErrText
		}
		var first string
		first, text, _ = strings.Cut(text, "\n")
		if e := s.takes(wordsOf(first)); e != api.OK {
			return script{}, number, e
		}
	}
	if !s.begun {
		return script{}, number, api.ErrOrder
	}
	return s, 0, api.OK
}

// takes: a line by its words; it may say nothing.
func (s *script) takes(all []string) api.Errno {
	if len(all) == 0 || strings.HasPrefix(all[0], "#") {
		return api.OK
	}
	w := &words{left: all[1:]}
	switch all[0] {
	case groupWord:
		return s.takesGroup(w)
	case clientWord:
		return s.takesClient(w)
	}
	f, is := formNamed(all[0])
	if !is {
		return api.ErrLine
	}
	return s.takesLine(line{words: all, form: f}, w)
}

func (s *script) takesGroup(w *words) api.Errno {
	c := api.Config{F: w.number(), Room: w.number(), Patience: w.number(), Unguarded: w.flag(unguardedWord)}
	if e := inPlace(w, !s.begun); e != api.OK {
		return e
	}
	s.begun, s.setup.Config = true, c
	return api.OK
}

func (s *script) takesClient(w *words) api.Errno {
	c := api.ClientSetup{Number: w.number()}
	if e := inPlace(w, s.begun && len(s.lines) == 0); e != api.OK {
		return e
	}
	s.setup.Clients = append(s.setup.Clients, c)
	return api.OK
}

func (s *script) takesLine(l line, w *words) api.Errno {
	l.event.Kind = l.form.kind
	for _, f := range l.form.fields {
		w.field(f, &l.event)
	}
	if e := inPlace(w, s.begun); e != api.OK {
		return e
	}
	s.lines = append(s.lines, l)
	if l.form.word == judgeWord {
		s.judges++
	}
	return api.OK
}

// inPlace: a line that is none is told ahead of one that stands in the wrong place.
func inPlace(w *words, rightPlace bool) api.Errno {
	switch {
	case !w.wellEnded():
		return api.ErrLine
	case !rightPlace:
		return api.ErrOrder
	}
	return api.OK
}
