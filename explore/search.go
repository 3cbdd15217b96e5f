package explore

import (
	"iter"
	"slices"
	"sync"

	"amnesia/api"
)

// many is how many scripts are dealt out at one time. What they come to lies about till it is their turn, and a fault among them makes what lies behind it vain: so they are not all of a level.
const many = 256

// search goes through the scripts of a scope.
type search struct {
	scope   api.Scope
	workers int
	known   map[standing]struct{} // of all scripts that were gone on from
	level   []stem                // the longest of these
	finding api.Finding
}

// standing is what makes one script of two enough.
type standing struct {
	text string
	spent
}

// stem is a script that is gone on from, and what may come next.
type stem struct {
	script []api.Event
	moves  []api.Event
}

// outcome is what a script comes to.
type outcome struct {
	stem
	standing
	fault int // the first faulty row; -1: none is, and then all else is looked at
}

// goThrough: by length, till there is a fault, or nothing is left. ErrStates: there are too many scripts to go on from.
func (s *search) goThrough() api.Errno {
	if e := s.goOn([][]api.Event{nil}); e != api.OK {
		return e
	}
	for len(s.level) > 0 {
		level := s.level
		s.level = nil
		for scripts := range behind(level) {
			if e := s.goOn(scripts); e != api.OK || s.finding.Found {
				return e
			}
		}
	}
	return api.OK
}

// behind goes over the scripts behind those of a level, in their order, many at a time.
func behind(level []stem) iter.Seq[[][]api.Event] {
	return func(yield func([][]api.Event) bool) {
		var scripts [][]api.Event
		for _, t := range level {
			for _, move := range t.moves {
				if len(scripts) == many {
					if !yield(scripts) {
						return
					}
					scripts = nil
				}
				scripts = append(scripts, append(slices.Clip(t.script), move))
			}
		}
		yield(scripts)
	}
}

// goOn takes scripts of one length, in their order: till there is a fault, or ErrStates.
func (s *search) goOn(scripts [][]api.Event) api.Errno {
	for _, o := range s.played(scripts) {
		s.finding.Scripts++
		if o.fault >= 0 {
			s.find(o)
			return api.OK
		}
		if _, is := s.known[o.standing]; is {
			continue
		}
		if s.finding.States == api.MaxStates {
			return api.ErrStates
		}
		s.known[o.standing] = struct{}{}
		s.finding.States++
		s.finding.Deepest = len(o.script)
		s.level = append(s.level, o.stem)
	}
	return api.OK
}

// played: what each script comes to, dealt to the workers.
func (s *search) played(scripts [][]api.Event) []outcome {
	outcomes := make([]outcome, len(scripts))
	var all sync.WaitGroup
	for first := range min(s.workers, len(scripts)) {
		all.Add(1)
		go func() {
			defer all.Done()
			for i := first; i < len(scripts); i += s.workers {
				outcomes[i] = s.outcomeOf(scripts[i])
			}
		}()
	}
	all.Wait()
	return outcomes
}

// outcomeOf: what a script of moves comes to: a cluster plays it, as it plays Before.
func (s *search) outcomeOf(script []api.Event) outcome {
	there, _ := endOf(s.scope.Setup, s.scope.Before, script)
	j := there.judged()
	if j.Fault >= 0 {
		return outcome{stem: stem{script: script}, fault: j.Fault}
	}
	used := spentBy(s.scope.Before, script)
	return outcome{
		stem:     stem{script: script, moves: there.moves(s.scope, script, used)},
		standing: standing{text: there.text(j), spent: used},
		fault:    -1,
	}
}

// find: a script with a fault. Its events are new memory, those of Before too.
func (s *search) find(o outcome) {
	s.finding.Found, s.finding.Row = true, o.fault
	s.finding.Script = slices.Concat(s.scope.Before, o.script)
	for i := range s.finding.Script {
		e := &s.finding.Script[i]
		e.Bytes = slices.Clone(e.Bytes)
	}
}
