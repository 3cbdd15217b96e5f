package cluster_test

import (
	"math/rand/v2"
	"testing"

	"amnesia/api"
	"amnesia/cluster"
)

// Runs of any events that keep the premises: draws are fresh, and what comes was sent, or does not decode. Crashes come behind any send; packets are lost, doubled, spoilt, and come in any order, again and much later.

// mood: how often things happen in a run.
type mood struct {
	loss, copies, spoils, crashes, wrong, rounds int // out of 1000
	old                                          int // how often it is an old packet that comes
	lazy                                         int // a replica whose clock hardly ticks, -1: none
	many                                         bool
}

func someMood(r *rand.Rand, n int) mood {
	return mood{loss: pick(r, 0, 20, 100), copies: pick(r, 0, 20, 60), spoils: pick(r, 0, 10), crashes: pick(r, 0, 5, 15, 30), wrong: 10,
		rounds: pick(r, 0, 5, 20), old: pick(r, 0, 30, 100), lazy: pick(r, -1, r.IntN(n)), many: r.IntN(6) == 0}
}

// runner plays a run.
type runner struct {
	*watch
	r        *rand.Rand
	mood     mood
	requests int // so many may be made yet
}

func running(t *testing.T, r *rand.Rand, setup api.Setup, met map[string]int) *runner {
	t.Helper()
	return &runner{watch: watched(t, setup, met), r: r, mood: someMood(r, 2*setup.Config.F+1), requests: setup.Config.Room}
}

func (g *runner) chance(of int) bool { return g.r.IntN(1000) < of }

func (g *runner) cut() int {
	if g.chance(g.mood.crashes) && g.mayCrash() {
		return 1 + g.r.IntN(6)
	}
	return 0
}

// mayCrash: mostly at most F are down; now and then it is not asked.
func (g *runner) mayCrash() bool {
	down := 0
	for _, s := range g.states() {
		if !isUp(s) {
			down++
		}
	}
	return down < g.setup.Config.F || g.mood.many && g.r.IntN(20) == 0
}

// normal: how many are.
func (g *runner) normal() int {
	n := 0
	for _, s := range g.states() {
		if s.Status == api.StatusNormal {
			n++
		}
	}
	return n
}

func (g *runner) moves() {
	g.t.Helper()
	node := g.r.IntN(len(g.lives))
	client := g.r.IntN(len(g.setup.Clients))
	switch k := g.r.IntN(1000); {
	case g.chance(g.mood.rounds):
		g.round()
	case g.chance(g.mood.crashes) && g.mayCrash():
		g.do(crash(node))
	case k < 30 && g.requests > 0:
		g.requests--
		g.do(submit(client, someOp(g.r)))
	case k < 60:
		g.do(retry(client))
	case k < 120:
		g.do(query(client, node, pick(g.r, read(g.r.IntN(3)), count)))
	case k < 160:
		g.startsAgain(node)
	case k < 400:
		if node != g.mood.lazy || g.r.IntN(30) == 0 {
			g.do(tick(node, g.cut()))
		}
	case g.chance(g.mood.wrong):
		g.do(inject(node, 7, []byte("nothing that decodes")))
	default:
		g.comes()
	}
}

// startsAgain: with a draw above all that it had.
func (g *runner) startsAgain(node int) {
	g.t.Helper()
	d := g.lives[node].draw
	if g.r.IntN(4) == 0 {
		d.Hi, d.Lo = d.Hi+1, g.r.Uint64N(5)
	} else {
		d.Lo += 1 + g.r.Uint64N(3)
	}
	g.do(restart(node, d, g.cut()))
}

// comes: a packet, after what may happen to it; or one that was sent long ago, once more.
func (g *runner) comes() {
	g.t.Helper()
	if len(g.packets) > 0 && g.chance(g.mood.old) {
		if p := pick(g.r, g.packets...); p.To < 7 {
			g.do(inject(p.To, p.From, p.Bytes))
			g.do(deliver(len(g.u.Pool())-1, g.cut()))
		}
		return
	}
	index := pick(g.r, 0, g.r.IntN(10), g.r.IntN(1000))
	switch {
	case g.chance(g.mood.loss):
		g.do(drop(index))
	case g.chance(g.mood.copies):
		g.do(copyOf(index))
	case g.chance(g.mood.spoils):
		g.do(spoilt(index, g.r.IntN(200), 1+g.r.IntN(255)))
	default:
		g.do(deliver(index, g.cut()))
	}
}

// round: a Round of 1, event by event, so that all of it is looked at.
func (g *runner) round() {
	g.t.Helper()
	if len(g.u.Pool()) > 300 {
		return
	}
	for client := range g.setup.Clients {
		g.do(retry(client))
	}
	for range g.u.Pool() {
		g.do(deliver(0, g.cut()))
	}
	for node := range g.lives {
		g.do(tick(node, 0))
	}
}

func greatSetup(r *rand.Rand) api.Setup {
	c := api.Config{F: pick(r, 1, 1, 1, 2, 2, 3), Room: pick(r, 1, 3, 8, 20), Patience: pick(r, 6, 6, 9)}
	setup := api.Setup{Config: c}
	for range 1 + r.IntN(4) {
		setup.Clients = append(setup.Clients, api.ClientSetup{Number: pick(r, 0, 5)})
	}
	return setup
}

// expectEnough: what was met in all runs of a test is not too little.
func expectEnough(t *testing.T, met, least map[string]int) {
	t.Helper()
	for what, n := range least {
		if met[what] < n {
			t.Error("too few:", what, met)
		}
	}
}

// G1 to G5 and G9.
func TestGreatPromises(t *testing.T) {
	t.Parallel()
	met := make(map[string]int)
	for seed := range uint64(100) {
		r := seeded(8000 + seed)
		setup := greatSetup(r)
		g := running(t, r, setup, met)
		g.requests += r.IntN(4) // some will be refused
		for g.u.Events() < 1500 && g.fault == "" {
			g.moves()
			if r.IntN(300) == 0 {
				g.mood = someMood(r, len(g.lives))
			}
		}
		if g.fault != "" {
			t.Fatal(seed, setup, g.fault)
		}
	}
	expectEnough(t, met, map[string]int{"crashes": 300, "done": 1500, "leads": 100, "replies": 150, "returns": 200, "told": 1000, "votes": 500, "votes of a later life": 100})
}

// G7: from any such point, with F + 1 that are normal; and behind it from further ones.
func TestItGetsGoingAgain(t *testing.T) {
	t.Parallel()
	met := make(map[string]int)
	for seed := range uint64(80) {
		r := seeded(9000 + seed)
		setup := greatSetup(r)
		g := running(t, r, setup, met)
		for range 3 {
			for range r.IntN(400) {
				g.moves()
			}
			g.expectGoing()
		}
		if g.fault != "" {
			t.Fatal(seed, setup, g.fault)
		}
	}
	expectEnough(t, met, map[string]int{"going": 120, "waited": 60, "went back to normal": 40})
}

// expectGoing: G7, from here on, if it is asked here.
func (g *runner) expectGoing() {
	g.t.Helper()
	if g.normal() <= g.setup.Config.F {
		return
	}
	g.met["going"]++
	before := g.states()
	for client := range g.setup.Clients {
		if l, _ := g.u.Client(client); l.Waits {
			g.met["waited"]++
		}
	}
	g.do(rounds(cluster.Bound(g.setup.Config)))
	for node, s := range g.states() {
		if s.Status != api.StatusNormal && before[node].Status != 0 {
			g.wrong("G7: %d is %+v", node, s)
		}
		if before[node].Status != api.StatusNormal && before[node].Status != 0 {
			g.met["went back to normal"]++
		}
	}
	for client := range g.setup.Clients {
		if l, _ := g.u.Client(client); l.Waits {
			g.wrong("G7: client %d waits: %+v", client, l)
		}
	}
}
