package engine

import (
	"sync"

	"amnesia/api"
)

// deal is scripts on their way to those who play them.
type deal struct {
	texts chan string // all of them, and closed
	mutex sync.Mutex
	taken int // how many were received; guarded by mutex
}

func dealt(texts []string) *deal {
	d := &deal{texts: make(chan string, len(texts))}
	for _, text := range texts {
		d.texts <- text
	}
	close(d.texts)
	return d
}

// next: a text that nobody has taken, and its place among all; false: there is none. It is received and counted under one lock, so that the count is its place.
func (d *deal) next() (int, string, bool) {
	d.mutex.Lock()
	defer d.mutex.Unlock()
	text, is := <-d.texts
	if !is {
		return 0, "", false
	}
	d.taken++
	return d.taken - 1, text, true
}

// playsInto: one worker's part: texts, as long as there are any; the outcome of each goes to its place.
func (d *deal) playsInto(outcomes []api.Outcome) {
	for {
		place, text, is := d.next()
		if !is {
			return
		}
		report, line, e := Play(text)
		outcomes[place] = api.Outcome{Report: report, Line: line, Err: e}
	}
}
