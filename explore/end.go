package explore

import (
	"amnesia/api"
	"amnesia/cluster"
	"amnesia/core"
	"amnesia/history"
)

// end is what there is behind a script, and what was seen of it.
type end struct {
	setup    api.Setup
	replicas []replica
	clients  []api.ClientLook
	pool     []api.Packet
	rows     []api.Seen
}

// replica is one that is alive, with its state, or one that is crashed.
type replica struct {
	state api.State
	alive bool
}

// endOf: what there is behind a script, which may be given in parts; false: a cluster refuses the setup or an event.
func endOf(setup api.Setup, parts ...[]api.Event) (*end, bool) {
	u, e := cluster.New(setup)
	if e != api.OK {
		return nil, false
	}
	there := &end{setup: setup}
	for _, script := range parts {
		for _, event := range script {
			seen, e := u.Do(event)
			if e != api.OK {
				return nil, false
			}
			there.rows = append(there.rows, seen...)
		}
	}
	there.look(u)
	return there, true
}

func (there *end) look(u *cluster.Cluster) {
	for node := range core.Nodes(there.setup.Config) {
		state, alive := u.Look(node)
		there.replicas = append(there.replicas, replica{state, alive})
	}
	for client := range there.setup.Clients {
		look, _ := u.Client(client) // the setup has that client
		there.clients = append(there.clients, look)
	}
	there.pool = u.Pool()
}

// judged: the sequence of what was seen, and its first fault.
func (there *end) judged() api.Judgement {
	judgement, _ := history.Judge(there.setup, there.rows) // a cluster takes the setup, and its rows may be
	return judgement
}

// recovers: is a replica alive, and not yet back?
func (r replica) recovers() bool { return r.alive && r.state.Status == api.StatusRecovering }
