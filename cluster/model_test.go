package cluster_test

import (
	"bytes"
	"math"
	"slices"
	"testing"

	"amnesia/api"
	"amnesia/ledger"
	"amnesia/message"
	"amnesia/replica"
)

// model is the chapter in other words than the program's: plain lists, and long switches. It has a nil replica where one is crashed.
type model struct {
	t       *testing.T
	setup   api.Setup
	alive   []*replica.Replica
	clients []api.ClientLook
	pool    []api.Packet
	events  int
	rows    []api.Seen
}

func newModel(t *testing.T, setup api.Setup) *model {
	t.Helper()
	m := &model{t: t, setup: setup}
	for node := range 2*setup.Config.F + 1 {
		r, e := replica.New(setup.Config, node)
		if e != api.OK {
			t.Fatal(e)
		}
		m.alive = append(m.alive, r)
	}
	for _, c := range setup.Clients {
		m.clients = append(m.clients, api.ClientLook{Number: c.Number})
	}
	return m
}

func (m *model) do(e api.Event) ([]api.Seen, api.Errno) {
	if m.events == 4096 {
		return nil, api.ErrEvents
	}
	if m.refuses(e) {
		return nil, api.ErrEvent
	}
	m.rows = nil
	m.happens(e)
	for i := range m.rows {
		m.rows[i].Event = m.events
	}
	m.events++
	return m.rows, api.OK
}

// refuses: the middle column of the chapter's table.
func (m *model) refuses(e api.Event) bool {
	noNode := e.Node < 0 || e.Node > 2*m.setup.Config.F
	noClient := e.Client < 0 || e.Client > len(m.clients)-1
	switch e.Kind {
	case api.EventSubmit:
		return noClient || m.clients[e.Client].Number == math.MaxInt || ledger.Check(e.Op) != api.OK
	case api.EventRetry:
		return noClient
	case api.EventDeliver:
		return e.Index < 0 || e.Cut < 0
	case api.EventDrop, api.EventCopy:
		return e.Index < 0
	case api.EventSpoil:
		return e.Index < 0 || e.At < 0 || e.Count < 1 || e.Count > 255
	case api.EventInject:
		node, client := e.At >= 0 && e.At < 2*m.setup.Config.F+1, e.At >= 7 && e.At < 7+len(m.clients)
		return noNode || !node && !client || len(e.Bytes) > 32768
	case api.EventTick:
		return noNode || e.Cut < 0
	case api.EventCrash:
		return noNode
	case api.EventRestart:
		return noNode || e.Cut < 0 || e.Draw.Hi == 0 && e.Draw.Lo == 0
	case api.EventQuery:
		return noClient || noNode || m.clients[e.Client].Queries == math.MaxInt || ledger.Check(e.Op) != api.OK || e.Op.Kind != api.OpRead && e.Op.Kind != api.OpCount
	case api.EventRound:
		return e.Count < 1 || e.Count > 10000
	}
	return true
}

// happens: the last column.
func (m *model) happens(e api.Event) {
	at := -1
	if len(m.pool) > 0 {
		at = e.Index % len(m.pool)
	}
	switch {
	case e.Kind == api.EventSubmit:
		c := &m.clients[e.Client]
		*c = api.ClientLook{Number: c.Number + 1, Waits: true, Op: e.Op, Seen: c.Seen, Queries: c.Queries, Asks: c.Asks, Query: c.Query, Told: c.Told}
		m.rows = append(m.rows, api.Seen{Kind: api.SeenAsked, Entry: api.Entry{Client: e.Client, Number: c.Number, Op: e.Op}})
		m.requests(e.Client)
	case e.Kind == api.EventRetry:
		m.requests(e.Client)
	case e.Kind == api.EventInject:
		m.pool = append(m.pool, api.Packet{From: e.At, To: e.Node, Bytes: bytes.Clone(e.Bytes)})
	case e.Kind == api.EventTick:
		m.ticks(e.Node, e.Cut)
	case e.Kind == api.EventCrash && m.alive[e.Node] != nil:
		m.crashes(e.Node)
	case e.Kind == api.EventRestart && m.alive[e.Node] == nil:
		r, out, errno := replica.Restart(m.setup.Config, e.Node, e.Draw)
		if errno != api.OK {
			m.t.Fatal(errno)
		}
		m.alive[e.Node] = r
		m.rows = append(m.rows, api.Seen{Kind: api.SeenUp, Node: e.Node, Draw: e.Draw})
		m.goesOut(e.Node, out, e.Cut)
	case e.Kind == api.EventQuery:
		c := &m.clients[e.Client]
		*c = api.ClientLook{Number: c.Number, Waits: c.Waits, Op: c.Op, Result: c.Result, Seen: c.Seen, Queries: c.Queries + 1, Asks: true, Query: e.Op}
		m.sends(7+e.Client, e.Node, frame(m.t, m.setup.Config, api.Msg{Kind: api.KindQuery, Place: c.Seen, Entry: api.Entry{Client: e.Client, Number: c.Queries, Op: e.Op}}))
	case e.Kind == api.EventRound:
		for range e.Count {
			m.round()
		}
	case at >= 0:
		m.moves(e, at)
	}
}

// moves: what is done to the packet at that place of the pool.
func (m *model) moves(e api.Event, at int) {
	p := m.pool[at]
	switch e.Kind {
	case api.EventDeliver:
		m.pool = slices.Delete(m.pool, at, at+1)
		m.comes(p, e.Cut)
	case api.EventDrop:
		m.pool = slices.Delete(m.pool, at, at+1)
	case api.EventCopy:
		m.pool = append(m.pool, api.Packet{From: p.From, To: p.To, Bytes: bytes.Clone(p.Bytes)})
	case api.EventSpoil:
		if len(p.Bytes) > 0 {
			p.Bytes[e.At%len(p.Bytes)] ^= byte(e.Count)
		}
	}
}

func (m *model) round() {
	for client := range m.clients {
		m.requests(client)
	}
	now := m.pool
	m.pool = nil
	for _, p := range now {
		m.comes(p, 0)
	}
	for node := range m.alive {
		m.ticks(node, 0)
	}
}

// requests: a client that waits sends its request to all.
func (m *model) requests(client int) {
	c := m.clients[client]
	if !c.Waits {
		return
	}
	for node := range m.alive {
		m.sends(7+client, node, frame(m.t, m.setup.Config, api.Msg{Kind: api.KindRequest, Entry: api.Entry{Client: client, Number: c.Number, Op: c.Op}}))
	}
}

func (m *model) sends(from, to int, frame []byte) {
	m.rows = append(m.rows, api.Seen{Kind: api.SeenSent, Packet: api.Packet{From: from, To: to, Bytes: frame}})
	if to < 7+len(m.clients) {
		m.pool = append(m.pool, api.Packet{From: from, To: to, Bytes: bytes.Clone(frame)})
	}
}

func (m *model) crashes(node int) {
	m.alive[node] = nil
	m.rows = append(m.rows, api.Seen{Kind: api.SeenDown, Node: node})
}

func (m *model) ticks(node, cut int) {
	if r := m.alive[node]; r != nil {
		s := r.State()
		out, e := r.Tick()
		if e != api.OK {
			m.t.Fatal(e)
		}
		m.stepped(node, s)
		m.goesOut(node, out, cut)
	}
}

func (m *model) comes(p api.Packet, cut int) {
	taken := api.Seen{Kind: api.SeenTaken, Packet: api.Packet{From: p.From, To: p.To, Bytes: bytes.Clone(p.Bytes)}}
	if p.To >= 7 {
		m.rows = append(m.rows, taken)
		m.hears(p.To-7, p.Bytes)
		return
	}
	if r := m.alive[p.To]; r != nil {
		m.rows = append(m.rows, taken)
		s := r.State()
		out, _ := r.Handle(p.Bytes)
		m.stepped(p.To, s)
		m.goesOut(p.To, out, cut)
	}
}

// stepped: what is seen between Taken or Up and Sent.
func (m *model) stepped(node int, was api.State) {
	s := m.alive[node].State()
	for i, e := range s.Log[:s.Commit] {
		if i >= was.Commit {
			m.rows = append(m.rows, api.Seen{Kind: api.SeenDone, Node: node, View: s.View, Place: i + 1, Entry: e})
		}
	}
	if s.Status != api.StatusNormal {
		return
	}
	primary := s.View%(2*m.setup.Config.F+1) == node
	switch {
	case was.Status == api.StatusRecovering:
		m.rows = append(m.rows, api.Seen{Kind: api.SeenBack, Node: node, View: s.View, Log: s.Log})
	case primary && (was.Status == api.StatusChange || was.View != s.View):
		m.rows = append(m.rows, api.Seen{Kind: api.SeenLead, Node: node, View: s.View, Log: s.Log})
	}
}

func (m *model) goesOut(node int, out []api.Packet, cut int) {
	for i, p := range out {
		if cut == 0 || i < cut-1 {
			m.sends(p.From, p.To, p.Bytes)
		}
	}
	if cut > 0 {
		m.crashes(node)
	}
}

// hears: a client.
func (m *model) hears(client int, frame []byte) {
	c := &m.clients[client]
	msg, e := message.Decode(m.setup.Config, frame)
	if e != api.OK || msg.Entry.Client != client {
		return
	}
	if msg.Kind == api.KindReply && c.Waits && msg.Entry.Number == c.Number && msg.Result.Code != api.ResRefused {
		c.Waits = false
		c.Result = msg.Result
		if msg.Place > c.Seen {
			c.Seen = msg.Place
		}
		m.rows = append(m.rows, api.Seen{Kind: api.SeenReply, Entry: api.Entry{Client: client, Number: c.Number}, Result: msg.Result})
	}
	if msg.Kind == api.KindTold && c.Asks && msg.Entry.Number == c.Queries && msg.Commit >= c.Seen {
		c.Asks = false
		c.Told = msg.Result
		c.Seen = msg.Commit
		m.rows = append(m.rows, api.Seen{Kind: api.SeenTold, Node: msg.Node, Place: msg.Commit, Entry: api.Entry{Client: client, Number: c.Queries, Op: c.Query}, Result: msg.Result})
	}
}
