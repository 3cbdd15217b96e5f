package audit_test

import (
	"math/rand/v2"
	"reflect"
	"slices"
	"strconv"
	"strings"
	"sync"
	"testing"

	"amnesia/api"
	"amnesia/audit"
)

// P21.5, P2 and P3 of DOC.md: whose memory is whose.

// room: a list with marks in the room behind it.
func room[T any](l []T, marks ...T) []T {
	return append(append(make([]T, 0, len(l)+len(marks)), l...), marks...)[:len(l)]
}

var mark = api.Hash{1, 2, 3}

// roomy: the state with room behind all its lists, and something in it.
func roomy(s api.State) api.State {
	s.Log, s.Vector = room(s.Log, logOf(300)...), room(s.Vector, api.Draw{Lo: 77}, api.Draw{Lo: 78})
	s.Acks, s.Marks = room(s.Acks, api.Ack{Node: 7, Place: 7}), room(s.Marks, api.Mark{Node: 7})
	s.Ballots, s.Answers = room(s.Ballots, api.Ballot{Node: 7, Log: logOf(1)}), room(s.Answers, api.Answer{Node: 7, Log: logOf(1)})
	return s
}

func roomyPath(path []api.Hash) []api.Hash {
	return room(path, slices.Repeat([]api.Hash{mark}, 20)...)
}

// eachList: every list that a value reaches, those that lie in a list's spare room too.
func eachList(v reflect.Value, visit func(reflect.Value)) {
	switch v.Kind() {
	case reflect.Struct:
		for i := range v.NumField() {
			eachList(v.Field(i), visit)
		}
	case reflect.Slice:
		visit(v)
		whole := v.Slice(0, v.Cap())
		for i := range whole.Len() {
			eachList(whole.Index(i), visit)
		}
	}
}

// dump: all that a value reaches as text, spare room too.
func dump(v reflect.Value, b *strings.Builder) {
	switch v.Kind() {
	case reflect.Struct:
		for i := range v.NumField() {
			dump(v.Field(i), b)
		}
	case reflect.Slice:
		b.WriteString("[" + strconv.Itoa(v.Len()) + ":")
		for i := range v.Cap() {
			dump(v.Slice(0, v.Cap()).Index(i), b)
		}
		b.WriteString("]")
	case reflect.Array:
		for i := range v.Len() {
			dump(v.Index(i), b)
		}
	case reflect.String:
		b.WriteString(strconv.Quote(v.String()))
	case reflect.Uint64, reflect.Uint8:
		b.WriteString(strconv.FormatUint(v.Uint(), 10) + " ")
	default:
		b.WriteString(strconv.FormatInt(v.Int(), 10) + " ")
	}
}

func dumped(things ...any) string {
	var b strings.Builder
	for _, thing := range things {
		dump(reflect.ValueOf(thing), &b)
	}
	return b.String()
}

// spoil writes over all that a value's lists reach, their spare room too, by other values than any that stand there.
func spoil(things ...any) {
	for _, thing := range things {
		eachList(reflect.ValueOf(thing), func(list reflect.Value) {
			whole := list.Slice(0, list.Cap())
			for i := range whole.Len() {
				spoilPart(whole.Index(i))
			}
		})
	}
}

func spoilPart(v reflect.Value) {
	switch v.Kind() {
	case reflect.Struct:
		for i := range v.NumField() {
			spoilPart(v.Field(i))
		}
	case reflect.Array:
		for i := range v.Len() {
			spoilPart(v.Index(i))
		}
	case reflect.Int:
		v.SetInt(-99)
	case reflect.Uint64, reflect.Uint8:
		v.SetUint(99)
	case reflect.String:
		v.SetString("spoilt")
	}
}

// span is a piece of memory: of lists that have room for nothing there is none.
type span struct{ from, to uintptr }

func spans(things ...any) []span {
	var l []span
	for _, thing := range things {
		eachList(reflect.ValueOf(thing), func(list reflect.Value) {
			if list.Cap() > 0 {
				l = append(l, span{list.Pointer(), list.Pointer() + uintptr(list.Cap())*list.Type().Elem().Size()})
			}
		})
	}
	return l
}

// expectApart: no list of an answer lies over another one of it, nor over one of what was given.
func expectApart(t *testing.T, what string, answer any, given ...any) {
	t.Helper()
	mine, theirs := spans(answer), spans(given...)
	for i, a := range mine {
		for _, b := range append(theirs, mine[:i]...) {
			if a.from < b.to && b.from < a.to {
				t.Fatalf("%s: an answer lies over something else: %+v", what, answer)
			}
		}
	}
}

// everyCall: all plain calls, of these.
func everyCall(c api.Config, l []api.State, at int, r api.Receipt) map[string]func() any {
	return map[string]func() any{
		"Claim":   func() any { k, _ := audit.Claim(c, l[0]); return k },
		"Receipt": func() any { r, _ := audit.Receipt(c, l[0], at); return r },
		"Bridge":  func() any { path, _ := audit.Bridge(c, l[0], at); return path },
		"Check":   func() any { return audit.Check(r) },
		"Confirm": func() any { return audit.Confirm(r, l[0].Log) },
		"Sweep":   func() any { forks, _ := audit.Sweep(c, l); return forks },
	}
}

// someArguments: states with room behind their lists, a place, and a receipt of the first.
func someArguments(t *testing.T, r *rand.Rand, c api.Config) ([]api.State, int, api.Receipt) {
	t.Helper()
	l := append(states(pick(r, ups(c, logOf(4), 1+r.IntN(4))...)), someStates(r, c, r.IntN(5))...)
	for i := range l {
		l[i] = roomy(l[i])
	}
	at := 1 + r.IntN(l[0].Commit)
	receipt := receiptOf(t, l[0].Log[:l[0].Commit], at, resultsOf(l[0].Log)[at-1])
	receipt.Path = roomyPath(receipt.Path)
	return room(l, roomy(normal(c, 0, 0, otherLog(logOf(4), 1), 4))), at, receipt
}

func TestWhoseMemory(t *testing.T) {
	r := seeded(40)
	for range 300 {
		c := pick(r, three, five)
		l, at, receipt := someArguments(t, r, c)
		before := dumped(l, receipt)
		for what, call := range everyCall(c, l, at, receipt) {
			got := call()
			want, again := dumped(got), call()
			expectApart(t, what, got, l, receipt, again)
			spoil(again)
			if dumped(got) != want || dumped(l, receipt) != before || dumped(call()) != want {
				t.Fatalf("%s: what is spoilt of one answer is seen elsewhere", what)
			}
		}
		if dumped(l, receipt) != before {
			t.Fatal("what was given is changed")
		}
	}
}

// An answer does not turn with what was given, once that is written over.
func TestNothingIsKept(t *testing.T) {
	for seed := range uint64(100) {
		for what := range everyCall(three, nil, 0, api.Receipt{}) {
			r := seeded(4000 + seed)
			c := pick(r, three, five)
			l, at, receipt := someArguments(t, r, c)
			got := everyCall(c, l, at, receipt)[what]()
			want := dumped(got)
			spoil(l, receipt)
			if dumped(got) != want {
				t.Fatal(what, "has turned with what was given")
			}
		}
	}
}

// P3: nil and empty lists are the same, and how much room there is behind a list has no part.
func TestNilAndEmptyAndRoom(t *testing.T) {
	empty := normal(three, 0, 0, []api.Entry{}, 0)
	empty.Acks, empty.Marks, empty.Ballots, empty.Answers = []api.Ack{}, []api.Mark{}, []api.Ballot{}, []api.Answer{}
	none := normal(three, 0, 0, nil, 0)
	for _, s := range []api.State{empty, none, roomy(none)} {
		if expectClaim(t, three, s) != claimed(t, none) {
			t.Fatal(s)
		}
		expectBridge(t, three, s, 0)
		expectNoReceipt(t, three, s, 1, api.ErrPlace)
		expectSweep(t, three, states(s, none))
	}
	one := receiptOf(t, logOf(1), 1, res(api.ResWritten, 7, "a"))
	for _, path := range [][]api.Hash{nil, {}, roomyPath(nil)} {
		one.Path = path
		expectCheck(t, "no path", one, api.OK)
		expectConfirm(t, "no path", one, logOf(1), api.OK)
		expectConfirm(t, "no path, and room behind the log", one, room(logOf(1), stranger), api.OK)
		expectConfirm(t, "the log is behind its end", one, room(nil, logOf(1)...), api.ErrReceipt)
		a := audit.New()
		expectHear(t, a, claim(nil), path, api.OK)
		expectHear(t, a, claim(logOf(3)), path, api.OK)
		expectHear(t, a, claim(logOf(2)), path, api.ErrProof)
		expectHear(t, a, claim(logOf(2)), room(path, bridge(t, logOf(3), 2)...), api.ErrProof)
	}
	for size := range 5 {
		s := normal(three, 1, 1, logOf(4), 4)
		a, b := expectBridge(t, three, s, size), expectBridge(t, three, roomy(s), size)
		if !slices.Equal(a, b) {
			t.Fatal(a, b)
		}
	}
}

func claimed(t *testing.T, s api.State) api.Claim {
	t.Helper()
	k, e := audit.Claim(three, s)
	if e != api.OK {
		t.Fatal(e)
	}
	return k
}

// What an auditor is handed is neither changed nor kept, and what it answers is the caller's.
func TestAnAuditorsMemory(t *testing.T) {
	l := logOf(9)
	a := audit.New()
	var forks []api.Fork
	heard := 0
	for n := 1; n <= 9; n++ {
		path := roomyPath(bridge(t, l[:n], n-1))
		receipt := receiptOf(t, l[:n], 1, api.Result{})
		receipt.Path = roomyPath(receipt.Path)
		before := dumped(path, receipt)
		if n%2 == 0 {
			expectHear(t, a, receipt.Claim, path, api.OK)
		} else {
			expectTake(t, a, receipt, path, api.OK)
		}
		other := claim(otherLog(l[:n], n))
		expectHear(t, a, other, path, api.ErrFork)
		expectTake(t, a, receipt, path, api.OK)
		if dumped(path, receipt) != before {
			t.Fatal("what was given is changed")
		}
		spoil(path, receipt)
		forks = append(forks, api.Fork{A: claim(l[:n]), B: other})
		heard += 3
		expectAuditor(t, a, claim(l[:n]), true, heard, forks...)
		first, second := a.Forks(), a.Forks()
		expectApart(t, "Forks", first, second)
		spoil(first)
		if !slices.Equal(second, forks) {
			t.Fatal("two answers share their memory")
		}
		spoil(append(second, api.Fork{}, api.Fork{})) // in the room behind it, if there is any
		expectAuditor(t, a, claim(l[:n]), true, heard, forks...)
	}
	kept := a.Forks()
	expectHear(t, a, claim(otherLog(l, 1)), nil, api.ErrFork)
	if !slices.Equal(kept, forks) {
		t.Fatal("an answer has turned with what was heard behind it")
	}
}

// Two auditors fed in turn share nothing.
func TestTwoAuditors(t *testing.T) {
	for seed := range uint64(50) {
		r := seeded(4100 + seed)
		l := logOf(12)
		logs := [][]api.Entry{l, otherLog(l, 1+r.IntN(12))}
		both := [2]*audit.Auditor{audit.New(), audit.New()}
		models := [2]*modelAuditor{{}, {}}
		if both[0] == both[1] {
			t.Fatal("New answers one twice")
		}
		for range 60 {
			i := r.IntN(2)
			latest, _ := models[i].latest()
			receipt, path := someClaim(t, r, logs, latest)
			expectHear(t, both[i], receipt.Claim, path, models[i].hear(receipt.Claim, path))
			for j, a := range both {
				latest, any := models[j].latest()
				expectAuditor(t, a, latest, any, models[j].heard, models[j].forks...)
			}
		}
	}
}

// The same again, whatever was asked between; and many at one time.
func TestSideBySide(t *testing.T) {
	r := seeded(42)
	l, at, receipt := someArguments(t, r, five)
	want := make(map[string]string)
	for what, call := range everyCall(five, l, at, receipt) {
		want[what] = dumped(call())
	}
	var wait sync.WaitGroup
	for range 8 {
		wait.Go(func() {
			a := audit.New()
			for n := range 20 {
				for what, call := range everyCall(five, l, at, receipt) {
					if dumped(call()) != want[what] {
						t.Error(what, "answers otherwise")
					}
				}
				if a.Hear(claim(logOf(0)), nil) != api.OK || a.Heard() != n+1 {
					t.Error("an auditor answers otherwise")
				}
			}
		})
	}
	wait.Wait()
}
