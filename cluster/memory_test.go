package cluster_test

import (
	"cmp"
	"reflect"
	"slices"
	"strconv"
	"strings"
	"sync"
	"testing"

	"amnesia/api"
	"amnesia/cluster"
)

// P15.5: P2 of DOC.md: whose memory is whose; two clusters share nothing. P3 too.

// eachList: every list that a value reaches, those that lie in a list's spare room too.
func eachList(v reflect.Value, visit func(reflect.Value)) {
	switch v.Kind() {
	case reflect.Struct:
		for i := range v.NumField() {
			eachList(v.Field(i), visit)
		}
	case reflect.Slice:
		visit(v)
		whole := v.Slice(0, v.Cap())
		if k := whole.Type().Elem().Kind(); k == reflect.Struct || k == reflect.Slice {
			for i := range whole.Len() {
				eachList(whole.Index(i), visit)
			}
		}
	}
}

// span is a piece of memory: of lists that have room for nothing there is none.
type span struct{ from, to uintptr }

func spans(things ...any) []span {
	var l []span
	for _, thing := range things {
		eachList(reflect.ValueOf(thing), func(list reflect.Value) {
			if list.Cap() > 0 {
				l = append(l, span{list.Pointer(), list.Pointer() + uintptr(list.Cap())*list.Type().Elem().Size()})
			}
		})
	}
	return l
}

// expectApart: no two lists of these things lie over one another.
func expectApart(t *testing.T, what string, things ...any) {
	t.Helper()
	l := spans(things...)
	slices.SortFunc(l, func(a, b span) int { return cmp.Compare(a.from, b.from) })
	for i := 1; i < len(l); i++ {
		if l[i].from < l[i-1].to {
			t.Fatal(what, "lies over something else")
		}
	}
}

// dump: all that a value reaches as text; with spare room, if it is asked for.
func dump(v reflect.Value, spare bool, b *strings.Builder) {
	switch v.Kind() {
	case reflect.Struct:
		for i := range v.NumField() {
			dump(v.Field(i), spare, b)
		}
	case reflect.Slice:
		b.WriteString("[" + strconv.Itoa(v.Len()) + ":")
		if spare {
			v = v.Slice(0, v.Cap())
		}
		for i := range v.Len() {
			dump(v.Index(i), spare, b)
		}
		b.WriteString("]")
	case reflect.String:
		b.WriteString(strconv.Quote(v.String()))
	case reflect.Bool:
		b.WriteString(strconv.FormatBool(v.Bool()))
	case reflect.Uint64, reflect.Uint8:
		b.WriteString(strconv.FormatUint(v.Uint(), 10) + " ")
	default:
		b.WriteString(strconv.FormatInt(v.Int(), 10) + " ")
	}
}

func dumped(spare bool, things ...any) string {
	var b strings.Builder
	for _, thing := range things {
		dump(reflect.ValueOf(thing), spare, &b)
	}
	return b.String()
}

// overwrite writes over all that a value's lists reach, their spare room too.
func overwrite(things ...any) {
	for _, thing := range things {
		eachList(reflect.ValueOf(thing), func(list reflect.Value) {
			whole := list.Slice(0, list.Cap())
			for i := range whole.Len() {
				overwritePart(whole.Index(i))
			}
		})
	}
}

func overwritePart(part reflect.Value) {
	switch part.Kind() {
	case reflect.Struct:
		for i := range part.NumField() {
			overwritePart(part.Field(i))
		}
	case reflect.Int:
		part.SetInt(-99)
	case reflect.Uint64, reflect.Uint8:
		part.SetUint(99)
	case reflect.String:
		part.SetString("spoilt")
	case reflect.Bool:
		part.SetBool(!part.Bool())
	}
}

func behind[E any](l []E, more ...E) []E {
	return append(append(make([]E, 0, len(l)+len(more)), l...), more...)[:len(l)]
}

// looks: all that a cluster answers without an event.
type looks struct {
	States  []api.State
	Clients []api.ClientLook
	Pool    []api.Packet
	Events  int
}

func look(u *cluster.Cluster, setup api.Setup) looks {
	l := looks{Pool: u.Pool(), Events: u.Events()}
	for node := range 2*setup.Config.F + 1 {
		s, _ := u.Look(node)
		l.States = append(l.States, s)
	}
	for client := range setup.Clients {
		c, _ := u.Client(client)
		l.Clients = append(l.Clients, c)
	}
	return l
}

// Two twins: of one all that it is given and all that it answers is written over, event by event. Both answer the same all along, and no answer lies over another one.
func TestWhoseMemory(t *testing.T) {
	t.Parallel()
	for seed := range uint64(40) {
		r := seeded(5000 + seed)
		setup := someSetup(r)
		given := setup
		given.Clients = behind(slices.Clone(setup.Clients), api.ClientSetup{Number: 77})
		before := dumped(true, given)
		one, two := made(t, given), made(t, setup)
		if dumped(true, given) != before {
			t.Fatal("the setup is changed")
		}
		overwrite(given)
		for range 80 {
			e := someEvent(t, r, setup, two)
			mine := e
			mine.Bytes = behind(slices.Clone(e.Bytes), 1, 2, 3)
			kept := dumped(true, mine)
			a, errno := one.Do(mine)
			b, other := two.Do(e)
			if errno != other || !sameRows(a, b) || dumped(true, mine) != kept {
				t.Fatalf("%+v: %d, %d, %v, %v", e, errno, other, a, b)
			}
			seen, twin := look(one, setup), look(two, setup)
			if dumped(false, seen) != dumped(false, twin) {
				t.Fatalf("%+v: %+v, %+v", e, seen, twin)
			}
			expectApart(t, "an answer", mine, a, b, seen, look(one, setup), twin)
			overwrite(mine, a, seen)
			if dumped(false, look(one, setup)) != dumped(false, twin) {
				t.Fatalf("%+v: what was answered is kept", e)
			}
		}
	}
}

// Run's rows are nobody else's, and its script stays as it is.
func TestWhoseMemoryInRun(t *testing.T) {
	for seed := range uint64(20) {
		r := seeded(6000 + seed)
		setup := someSetup(r)
		u := made(t, setup)
		var script []api.Event
		for range 100 {
			e := someEvent(t, r, setup, u)
			e.Bytes = behind(e.Bytes, 9, 9)
			if _, errno := u.Do(e); errno == api.OK || seed%4 == 0 { // in some of them, those that may not be too
				script = append(script, e)
			}
		}
		script = behind(script, api.Event{Kind: 77, Bytes: []byte("x")})
		given := dumped(true, script, setup)
		a, at, errno := cluster.Run(setup, script)
		b, place, other := cluster.Run(setup, script)
		if at != place || errno != other || !sameRows(a, b) || dumped(true, script, setup) != given {
			t.Fatal(at, place, errno, other)
		}
		expectApart(t, "rows", a, b, setup)
		for _, e := range script {
			expectApart(t, "rows", a, e)
		}
		was := dumped(false, b)
		overwrite(a)
		if dumped(false, b) != was || dumped(true, script, setup) != given {
			t.Fatal("rows are shared")
		}
	}
}

// What an event was given may be written over while its packet is under way.
func TestInjectedBytesAreCopied(t *testing.T) {
	text := behind([]byte("some text"), 'x', 'y')
	w := paired(t, setupOf(three, 0), inject(1, 0, text))
	copy(text[:cap(text)], "###########")
	if pool := w.u.Pool(); string(pool[0].Bytes) != "some text" {
		t.Error(pool)
	}
	copy(w.u.Pool()[0].Bytes, "#########")
	w.expect(deliver(0, 0), taken(api.Packet{From: 0, To: 1, Bytes: []byte("some text")}))
}

// A packet that is laid once more, and then spoilt or answered, is no other one's memory.
func TestCopiesAreApart(t *testing.T) {
	w := paired(t, setupOf(three, 0), submit(0, count), copyOf(0), copyOf(0), copyOf(3))
	pool := w.u.Pool()
	expectApart(t, "pool", pool, w.u.Pool())
	overwrite(pool)
	w.look()
	rows := w.do(deliver(0, 0))
	overwrite(rows)
	w.do(deliver(2, 0), deliver(2, 0))
}

// P3: nil and empty bytes and lists are the same.
func TestNilAndEmpty(t *testing.T) {
	one := paired(t, api.Setup{Config: three}, inject(0, 1, nil))
	two := paired(t, api.Setup{Config: three, Clients: []api.ClientSetup{}}, inject(0, 1, []byte{}))
	if a, b := one.do(deliver(0, 0)), two.do(deliver(0, 0)); !sameRows(a, b) {
		t.Error(a, b)
	}
	expectSameLooks(t, api.Setup{Config: three}, one.u, two.u)
}

// Several clusters by turns, and each on a goroutine of its own: each answers what it answers alone.
func TestSideBySide(t *testing.T) {
	const many = 8
	begin := func(at int) func() string { // one event of cluster number at
		r := seeded(uint64(7000 + at))
		setup := someSetup(r)
		u := made(t, setup)
		return func() string {
			rows, e := u.Do(someEvent(t, r, setup, u))
			return dumped(false, rows, look(u, setup)) + strconv.Itoa(int(e))
		}
	}
	alone := func(at int) string {
		step, all := begin(at), ""
		for range 60 {
			all += step()
		}
		return all
	}
	var want, byTurns, beside [many]string
	var steps [many]func() string
	for at := range many {
		want[at], steps[at] = alone(at), begin(at)
	}
	for range 60 {
		for at, step := range steps {
			byTurns[at] += step()
		}
	}
	var wait sync.WaitGroup
	for at := range many {
		wait.Go(func() { beside[at] = alone(at) })
	}
	wait.Wait()
	if byTurns != want || beside != want {
		t.Error("they answer otherwise side by side")
	}
}
