package cluster

import (
	"amnesia/api"
	"amnesia/ledger"
	"amnesia/replica"
)

// turn is one event as it happens: the cluster, and what is seen of it so far.
type turn struct {
	*Cluster
	seen []api.Seen
}

// act is a kind of events: whether one may be, asked ahead of all else, and what it does.
type act struct {
	mayBe   func(api.Event) bool
	happens func(api.Event)
}

// actOf: what there is to a kind; nothing, if it is none.
func (t *turn) actOf(kind api.EventKind) act {
	acts := [...]act{
		api.EventSubmit:  {t.maySubmit, t.submit},
		api.EventRetry:   {t.mayRetry, t.retry},
		api.EventDeliver: {t.mayDeliver, t.deliver},
		api.EventDrop:    {t.mayMove, t.drop},
		api.EventCopy:    {t.mayMove, t.copy},
		api.EventSpoil:   {t.maySpoil, t.spoil},
		api.EventInject:  {t.mayInject, t.inject},
		api.EventTick:    {t.mayTick, t.tick},
		api.EventCrash:   {t.mayCrash, t.crash},
		api.EventRestart: {t.mayRestart, t.restart},
		api.EventRound:   {t.mayRound, t.rounds},
		api.EventQuery:   {t.mayQuery, t.query},
	}
	if kind < 0 || int(kind) >= len(acts) {
		return act{}
	}
	return acts[kind]
}

func (u *Cluster) maySubmit(e api.Event) bool {
	return u.isClient(e.Client) && u.clients[e.Client].Number < api.MaxNumber && ledger.Check(e.Op) == api.OK
}

func (u *Cluster) mayRetry(e api.Event) bool { return u.isClient(e.Client) }

func (u *Cluster) mayDeliver(e api.Event) bool { return e.Index >= 0 && e.Cut >= 0 }

func (u *Cluster) mayMove(e api.Event) bool { return e.Index >= 0 }

func (u *Cluster) maySpoil(e api.Event) bool {
	return e.Index >= 0 && e.At >= 0 && e.Count >= 1 && e.Count <= 255
}

func (u *Cluster) mayInject(e api.Event) bool {
	return u.isNode(e.Node) && u.isAddress(e.At) && len(e.Bytes) <= api.MaxFrame
}

func (u *Cluster) mayTick(e api.Event) bool { return u.isNode(e.Node) && e.Cut >= 0 }

func (u *Cluster) mayCrash(e api.Event) bool { return u.isNode(e.Node) }

func (u *Cluster) mayRestart(e api.Event) bool {
	return u.isNode(e.Node) && e.Draw != api.Draw{} && e.Cut >= 0
}

func (u *Cluster) mayRound(e api.Event) bool { return e.Count >= 1 && e.Count <= api.MaxRounds }

func (u *Cluster) mayQuery(e api.Event) bool {
	reads := e.Op.Kind == api.OpRead || e.Op.Kind == api.OpCount
	return u.isClient(e.Client) && u.clients[e.Client].Queries < api.MaxNumber && u.isNode(e.Node) && reads && ledger.Check(e.Op) == api.OK
}

func (t *turn) submit(e api.Event) {
	c := &t.clients[e.Client]
	c.Number, c.Waits, c.Op, c.Result = c.Number+1, true, e.Op, api.Result{}
	t.see(api.Seen{Kind: api.SeenAsked, Entry: t.requestOf(e.Client)})
	t.request(e.Client)
}

func (t *turn) retry(e api.Event) {
	if t.clients[e.Client].Waits {
		t.request(e.Client)
	}
}

func (t *turn) query(e api.Event) {
	c := &t.clients[e.Client]
	c.Queries, c.Asks, c.Query, c.Told = c.Queries+1, true, e.Op, api.Result{}
	t.asks(e.Client, e.Node, api.Msg{Kind: api.KindQuery, Place: c.Seen, Entry: t.queryOf(e.Client)})
}

func (t *turn) deliver(e api.Event) {
	if t.net.Len() > 0 {
		p, _ := t.net.Take(t.place(e)) // the pool has that place
		t.comes(p, e.Cut)
	}
}

func (t *turn) drop(e api.Event) {
	if t.net.Len() > 0 {
		t.net.Drop(t.place(e))
	}
}

func (t *turn) copy(e api.Event) {
	if t.net.Len() > 0 {
		t.net.Copy(t.place(e))
	}
}

func (t *turn) spoil(e api.Event) {
	if t.net.Len() == 0 {
		return
	}
	place := t.place(e)
	if p, _ := t.net.At(place); len(p.Bytes) > 0 {
		t.net.Turn(place, e.At%len(p.Bytes), byte(e.Count))
	}
}

func (t *turn) inject(e api.Event) {
	t.net.Inject(api.Packet{From: e.At, To: e.Node, Bytes: e.Bytes})
}

func (t *turn) tick(e api.Event) {
	if r := t.replicas[e.Node]; r != nil {
		t.step(e.Node, e.Cut, r.Tick)
	}
}

func (t *turn) crash(e api.Event) {
	if t.replicas[e.Node] != nil {
		t.falls(e.Node)
	}
}

func (t *turn) restart(e api.Event) {
	if t.replicas[e.Node] != nil {
		return
	}
	r, out, _ := replica.Restart(t.group, e.Node, e.Draw) // the group has that node, and the draw is one
	t.replicas[e.Node] = r
	t.see(api.Seen{Kind: api.SeenUp, Node: e.Node, Draw: e.Draw})
	t.goOut(e.Node, e.Cut, out)
}

func (t *turn) rounds(e api.Event) {
	for range e.Count {
		t.round()
	}
}

// round: what is sent meanwhile comes in the next one, since Each tells the pool as it is ahead of all that comes.
func (t *turn) round() {
	for client := range t.clients {
		t.retry(api.Event{Client: client})
	}
	under := t.net.Each()
	t.net.Clear()
	for _, p := range under {
		t.comes(p, 0)
	}
	for node := range t.replicas {
		t.tick(api.Event{Node: node})
	}
}

// place: the place in the pool, which must not be empty, that an event means.
func (t *turn) place(e api.Event) int { return e.Index % t.net.Len() }
