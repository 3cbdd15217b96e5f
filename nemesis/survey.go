package nemesis

import (
	"amnesia/api"
	"amnesia/cluster"
	"amnesia/history"
)

// outcome is what a seed comes to: a trial, or the line and the error.
type outcome struct {
	trial api.Trial
	line  int
	err   api.Errno
}

// tried: what a seed comes to.
func (t trouble) tried(seed uint64) outcome {
	script, number, e := t.scriptOf(seed)
	if e != api.OK {
		return outcome{line: number, err: e}
	}
	rows, _, _ := cluster.Run(t.setup, script) // a cluster has played it already
	judgement, _ := history.Judge(t.setup, rows)
	trial := api.Trial{Seed: seed, Events: len(script), Fault: judgement.Fault}
	for _, row := range rows {
		switch row.Kind {
		case api.SeenReply:
			trial.Replies++
		case api.SeenLead:
			trial.Leads++
		case api.SeenBack:
			trial.Returns++
		}
	}
	return outcome{trial: trial}
}

// trialsOf: all trials; or the first line and error.
func trialsOf(outcomes []outcome) ([]api.Trial, int, api.Errno) {
	var trials []api.Trial
	for _, o := range outcomes {
		if o.err != api.OK {
			return nil, o.line, o.err
		}
		trials = append(trials, o.trial)
	}
	return trials, 0, api.OK
}
