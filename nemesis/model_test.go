package nemesis_test

import (
	"math/big"
	"regexp"
	"slices"
	"strings"
	"testing"

	"amnesia/api"
	"amnesia/cluster"
	"amnesia/history"
	"amnesia/nemesis"
)

// The model of this layer: lines by patterns, numbers as big ones, a seed's words by chapter 2's rule; each packet is looked at where it lies, and who is gone, recovers and waits is taken from the rows that are seen.

var (
	groupForm  = regexp.MustCompile(`^group N N N( unguarded)?$`)
	clientForm = regexp.MustCompile(`^client N$`)
	bodyForm   = regexp.MustCompile(`^(fault N N N N|split( N)+|heal|clock N N|load N|run N|churn N N|crash N|restart N|stale N|calm N)$`)
	numberForm = regexp.MustCompile(`^(0|[1-9][0-9]*)$`)
)

// modelLine is a line that says something: its first word, and its numbers.
type modelLine struct {
	number int
	word   string
	n      []*big.Int
}

// modelForm: a line with an N for each of its numbers, and these.
func modelForm(line string) (form string, numbers []*big.Int) {
	var words []string
	for _, w := range strings.Split(line, " ") {
		n, is := new(big.Int).SetString(w, 10)
		switch {
		case w == "":
			continue
		case is && numberForm.MatchString(w) && n.BitLen() <= 63:
			numbers = append(numbers, n)
			w = "N"
		case w == "N":
			w = "no number"
		}
		words = append(words, w)
	}
	return strings.Join(words, " "), numbers
}

// modelRead: a plan's setup and the lines behind its head.
func modelRead(plan string) (s api.Setup, said []modelLine, line int, e api.Errno) {
	if len(plan) > 1<<20 {
		return s, nil, 0, api.ErrText
	}
	all := strings.Split(plan, "\n")
	if all[len(all)-1] == "" {
		all = all[:len(all)-1]
	}
	groups := 0
	for i, l := range all {
		form, n := modelForm(l)
		isGroup, isClient, isBody := groupForm.MatchString(form), clientForm.MatchString(form), bodyForm.MatchString(form)
		switch {
		case i == 4400:
			return s, nil, 4401, api.ErrText
		case form == "" || form[0] == '#':
		case !isGroup && !isClient && !isBody:
			return s, nil, i + 1, api.ErrPlan
		case isGroup && groups > 0 || !isGroup && groups == 0 || isClient && len(said) > 0:
			return s, nil, i + 1, api.ErrOrder
		case isGroup:
			groups++
			s.Config = api.Config{F: int(n[0].Int64()), Room: int(n[1].Int64()), Patience: int(n[2].Int64()), Unguarded: strings.HasSuffix(form, "d")}
		case isClient:
			s.Clients = append(s.Clients, api.ClientSetup{Number: int(n[0].Int64())})
		default:
			word, _, _ := strings.Cut(form, " ")
			said = append(said, modelLine{i + 1, word, n})
		}
	}
	if groups == 0 {
		return s, nil, len(all) + 1, api.ErrOrder
	}
	return s, said, 0, api.OK
}

// modelRanges: of each kind of line the ranges of its numbers, as the page has them; -1 for n - 1.
var modelRanges = map[string][][2]int64{
	"fault": {{0, 100}, {0, 100}, {0, 100}, {0, 100}}, "split": {{0, -1}}, "heal": {}, "clock": {{0, -1}, {0, 9}}, "load": {{1, 100}}, "run": {{1, 2000}}, "churn": {{0, 100}, {1, 2000}},
	"crash": {{0, -1}}, "restart": {{0, -1}}, "stale": {{0, -1}}, "calm": {{1, 2000}},
}

// modelBudget: the first line whose numbers may not be; 0: there is none.
func modelBudget(nodes int, said []modelLine) int {
	rounds := new(big.Int)
	for _, l := range said {
		sum := new(big.Int)
		for i, n := range l.n {
			ranges := modelRanges[l.word]
			least, most := ranges[min(i, len(ranges)-1)][0], ranges[min(i, len(ranges)-1)][1]
			if most < 0 {
				most = int64(nodes) - 1
			}
			again := l.word == "split" && slices.ContainsFunc(l.n[:i], func(other *big.Int) bool { return other.Cmp(n) == 0 })
			if n.Cmp(big.NewInt(least)) < 0 || n.Cmp(big.NewInt(most)) > 0 || again {
				return l.number
			}
			sum.Add(sum, n)
		}
		switch l.word {
		case "fault":
			if sum.Cmp(big.NewInt(100)) > 0 {
				return l.number
			}
		case "run", "churn":
			rounds.Add(rounds, l.n[len(l.n)-1])
			if rounds.Cmp(big.NewInt(2000)) > 0 {
				return l.number
			}
		}
	}
	return 0
}

func modelCheck(plan string) (s api.Setup, said []modelLine, line int, e api.Errno) {
	s, said, line, e = modelRead(plan)
	if e != api.OK {
		return s, nil, line, e
	}
	c := s.Config
	if c.F < 1 || c.F > 3 || c.Room < 1 || c.Room > 256 || c.Patience < 6 || c.Patience > 100 {
		return s, nil, 0, api.ErrConfig
	}
	if len(s.Clients) > 16 {
		return s, nil, 0, api.ErrSetup
	}
	if at := modelBudget(2*c.F+1, said); at > 0 {
		return s, nil, at, api.ErrBudget
	}
	return s, said, 0, api.OK
}

// model is a plan at play.
type model struct {
	u       *cluster.Cluster
	setup   api.Setup
	next    func(m int) int
	script  []api.Event
	rows    []api.Seen
	refused int // events that the cluster refused
	line    int

	shares                [4]int
	side, rate            map[int]int
	draws                 map[int][]uint64
	gone, recovers, waits map[int]bool
}

// tooMany is the panic that ends a model's play.
type tooMany struct{}

func (m *model) lay(e api.Event) {
	if len(m.script) == 4096 {
		panic(tooMany{})
	}
	rows, err := m.u.Do(e)
	if err != api.OK {
		m.refused++
		return
	}
	m.script, m.rows = append(m.script, e), append(m.rows, rows...)
	for _, row := range rows {
		switch row.Kind {
		case api.SeenDown:
			m.gone[row.Node], m.recovers[row.Node] = true, false
		case api.SeenUp:
			m.gone[row.Node], m.recovers[row.Node] = false, true
			m.draws[row.Node] = append(m.draws[row.Node], row.Draw.Lo)
		case api.SeenBack:
			m.recovers[row.Node] = false
		case api.SeenAsked:
			m.waits[row.Entry.Client] = true
		case api.SeenReply:
			m.waits[row.Entry.Client] = false
		}
	}
}

func (m *model) nodes() int { return 2*m.setup.Config.F + 1 }

func (m *model) load() {
	if len(m.setup.Clients) == 0 {
		return
	}
	client := m.next(len(m.setup.Clients))
	switch m.next(5) {
	case 0, 1:
		slot := m.next(8)
		m.lay(submit(client, write(slot, string([]byte{byte(97 + m.next(8))}))))
	case 2:
		m.lay(submit(client, add(string([]byte{byte(97 + m.next(8))}))))
	case 3:
		m.lay(submit(client, read(m.next(8))))
	case 4:
		node := m.next(m.nodes())
		m.lay(query(client, node, read(m.next(8))))
	}
}

func (m *model) again(node int, stale bool) {
	had := m.draws[node]
	switch {
	case !m.gone[node]:
	case len(had) == 0:
		m.lay(restart(node, 1))
	case stale:
		m.lay(restart(node, had[len(had)-1]))
	default:
		m.lay(restart(node, had[len(had)-1]+1))
	}
}

func (m *model) churn(p int) {
	if m.next(100) >= p {
		return
	}
	node, away := m.next(m.nodes()), 0
	for other := range m.nodes() {
		if m.gone[other] || m.recovers[other] {
			away++
		}
	}
	switch {
	case m.gone[node]:
		m.again(node, false)
	case away < m.setup.Config.F || m.recovers[node]:
		m.lay(crash(node))
	}
}

func (m *model) round() {
	for client := range m.setup.Clients {
		if m.waits[client] {
			m.lay(retry(client))
		}
	}
	j := 0
	pool := m.u.Pool()
	for _, p := range pool {
		if len(pool) < 50 { // of many packets it would take too long
			p = m.u.Pool()[j]
		}
		if p.From < 7 && p.To < 7 && m.side[p.From] != m.side[p.To] {
			m.lay(drop(j))
			continue
		}
		w, s := m.next(100), m.shares
		switch {
		case w < s[0]:
			m.lay(drop(j))
		case w < s[0]+s[1]:
			m.lay(twice(j))
			m.lay(deliver(j))
		case w < s[0]+s[1]+s[2]:
			at := m.next(64)
			m.lay(spoil(j, at, 1+m.next(255)))
			m.lay(deliver(j))
		case w < s[0]+s[1]+s[2]+s[3]:
			j++
		default:
			m.lay(deliver(j))
		}
	}
	for node := range m.nodes() {
		if !m.gone[node] {
			for range m.rate[node] {
				m.lay(tick(node))
			}
		}
	}
}

func (m *model) does(l modelLine) {
	var n []int
	for _, x := range l.n {
		n = append(n, int(x.Int64()))
	}
	switch l.word {
	case "fault":
		m.shares = [4]int(n)
	case "split":
		m.side = make(map[int]int)
		for _, node := range n {
			m.side[node] = 1
		}
	case "heal":
		m.side = nil
	case "clock":
		m.rate[n[0]] = n[1]
	case "load":
		for range n[0] {
			m.load()
		}
	case "run":
		for range n[0] {
			m.round()
		}
	case "churn":
		for range n[1] {
			m.churn(n[0])
			m.round()
		}
	case "crash":
		if !m.gone[n[0]] {
			m.lay(crash(n[0]))
		}
	case "restart", "stale":
		m.again(n[0], l.word == "stale")
	case "calm":
		m.lay(round(n[0]))
	}
}

// modelCompile: the model behind a plan; or the line and the error.
func modelCompile(plan string, seed uint64) (m *model, line int, e api.Errno) {
	s, said, line, e := modelCheck(plan)
	if e != api.OK {
		return nil, line, e
	}
	u, _ := cluster.New(s)
	m = &model{u: u, setup: s, next: wordsOf(seed), rate: make(map[int]int), draws: make(map[int][]uint64), gone: make(map[int]bool), recovers: make(map[int]bool), waits: make(map[int]bool)}
	for node := range m.nodes() {
		m.rate[node] = 1
	}
	defer func() {
		if r := recover(); r == (tooMany{}) {
			line, e = m.line, api.ErrBudget
		} else if r != nil {
			panic(r)
		}
	}()
	for _, l := range said {
		m.line = l.number
		m.does(l)
	}
	return m, 0, api.OK
}

// trial: what the model came to.
func (m *model) trial(seed uint64) api.Trial {
	x := api.Trial{Seed: seed, Events: len(m.script)}
	for _, row := range m.rows {
		switch row.Kind {
		case api.SeenReply:
			x.Replies++
		case api.SeenLead:
			x.Leads++
		case api.SeenBack:
			x.Returns++
		}
	}
	j, _ := history.Judge(m.setup, m.rows)
	x.Fault = j.Fault
	return x
}

// expectModel: Check and Compile answer as the model does.
func expectModel(t *testing.T, plan string, seed uint64) (*model, api.Errno) {
	t.Helper()
	_, _, line, e := modelCheck(plan)
	if at, got := nemesis.Check(plan); at != line || got != e {
		t.Fatalf("%q: Check: %d, %d, want %d, %d", short(plan), at, got, line, e)
	}
	m, line, e := modelCompile(plan, seed)
	s, l, at, got := nemesis.Compile(plan, seed)
	switch {
	case at != line || got != e:
		t.Fatalf("%q, %d: Compile: %d, %d, want %d, %d", short(plan), seed, at, got, line, e)
	case e != api.OK && (len(l) != 0 || !sameSetup(s, api.Setup{})):
		t.Fatalf("%q, %d: something beside an error: %+v, %d events", short(plan), seed, s, len(l))
	case e == api.OK && (!sameSetup(s, m.setup) || !sameEvents(l, m.script)):
		t.Fatalf("%q, %d:\n%+v\nwant\n%+v", short(plan), seed, l, m.script)
	}
	return m, e
}

// Any plans, any seeds.
func TestModel(t *testing.T) {
	t.Parallel()
	kinds, met := make(map[api.EventKind]int), make(map[string]int)
	for k := range uint64(120) {
		r := seeded(1000 + k)
		plan, seed := somePlan(r), pick(r, 0, 1, r.Uint64(), ^uint64(0))
		m, e := expectModel(t, plan, seed)
		if e != api.OK {
			met["error"]++
			continue
		}
		for kind, n := range kindsOf(m.script) {
			kinds[kind] += n
		}
		met["refused"] += m.refused
		for _, e := range m.script {
			if e.Kind == api.EventDeliver && e.Index > 0 {
				met["held"]++
			}
		}
	}
	expectEnough(t, met, map[string]int{"error": 3, "refused": 20, "held": 1000})
	expectEnough(t, kinds, map[api.EventKind]int{
		api.EventSubmit: 500, api.EventQuery: 100, api.EventRetry: 1000, api.EventDeliver: 10000, api.EventDrop: 1000, api.EventCopy: 500, api.EventSpoil: 500, api.EventTick: 10000, api.EventCrash: 200, api.EventRestart: 200, api.EventRound: 100,
	})
}

// Texts of all kinds, mostly wrong.
func TestModelOfTexts(t *testing.T) {
	t.Parallel()
	met := make(map[api.Errno]int)
	for k := range uint64(10000) {
		r := seeded(20000 + k)
		plan := mangled(r, somePlan(r))
		_, _, line, e := modelCheck(plan)
		if at, got := nemesis.Check(plan); at != line || got != e {
			t.Fatalf("%q: Check: %d, %d, want %d, %d", short(plan), at, got, line, e)
		}
		if e != api.OK {
			expectWrong(t, plan, line, e)
		}
		met[e]++
	}
	expectEnough(t, met, map[api.Errno]int{api.OK: 500, api.ErrPlan: 500, api.ErrOrder: 200, api.ErrConfig: 100, api.ErrSetup: 10, api.ErrBudget: 300})
}
