package explore

import (
	"reflect"
	"testing"

	"amnesia/api"
)

// Tests of the canonical text from inside: an end whose every field is something, and then each of them something else. No script has them all.

func someLog(values ...string) []api.Entry {
	var l []api.Entry
	for i, v := range values {
		l = append(l, api.Entry{Client: i + 1, Number: i + 2, Op: api.Op{Kind: api.OpWrite, Slot: i + 3, Value: v}})
	}
	return l
}

func draw(n uint64) api.Draw { return api.Draw{Hi: n, Lo: n + 1} }

// fullEnd: with lists of two or more of all kinds. Together they are no state that may be; the text must tell them apart all the same.
func fullEnd() *end {
	there := &end{}
	for self := range 2 {
		there.replicas = append(there.replicas, replica{alive: true, state: api.State{
			Self: self, Status: api.StatusRecovering, View: 4, Last: 3, Commit: 1, Idle: 2, Log: someLog("a", "b"), Vector: api.Vector{draw(1), draw(2)},
			Acks:    []api.Ack{{Node: 1, Draw: draw(3), Place: 2}, {Node: 2, Draw: draw(4), Place: 1}},
			Marks:   []api.Mark{{Node: 1, Draw: draw(5)}, {Node: 2, Draw: draw(6)}},
			Ballots: []api.Ballot{{Node: 1, Draw: draw(7), Last: 1, Commit: 2, Log: someLog("c", "d")}, {Node: 2, Draw: draw(8), Last: 2, Commit: 1, Log: someLog("e")}},
			Answers: []api.Answer{{Node: 1, Draw: draw(9), View: 1, Commit: 2, Log: someLog("f")}, {Node: 2, Draw: draw(10), View: 3, Commit: 1, Log: someLog("g", "h")}},
		}})
		there.clients = append(there.clients, api.ClientLook{
			Number: 3, Waits: true, Op: api.Op{Kind: 1, Slot: 2, Value: "i"}, Result: api.Result{Code: 1, Slot: 2, Value: "j"}, Seen: 4,
			Queries: 5, Asks: true, Query: api.Op{Kind: 3, Slot: 4, Value: "k"}, Told: api.Result{Code: 3, Slot: 4, Value: "l"},
		})
		there.pool = append(there.pool, api.Packet{From: 1, To: 2, Bytes: []byte("mn")}, api.Packet{From: 2, To: 1, Bytes: []byte{byte(self)}})
	}
	return there
}

// eachPart: every field that a value reaches, by the way there, with the ways in which it can be something else.
func eachPart(way string, v reflect.Value, visit func(way string, change func() (restore func()))) {
	set := func(to reflect.Value) func() func() {
		return func() func() {
			was := reflect.New(v.Type()).Elem()
			was.Set(v)
			v.Set(to)
			return func() { v.Set(was) }
		}
	}
	switch v.Kind() {
	case reflect.Struct:
		for i := range v.NumField() {
			if name := v.Type().Field(i).Name; name != "Self" { // its place tells it
				eachPart(way+"."+name, v.Field(i), visit)
			}
		}
	case reflect.Slice:
		visit(way+" cut off", set(v.Slice(0, v.Len()-1)))
		visit(way+" longer", set(reflect.Append(v.Slice3(0, v.Len(), v.Len()), v.Index(0))))
		if v.Len() > 1 {
			visit(way+" none", set(reflect.Zero(v.Type())))
		}
		for i := range v.Len() {
			eachPart(way+"[]", v.Index(i), visit)
		}
	case reflect.Bool:
		visit(way, set(reflect.ValueOf(!v.Bool())))
	case reflect.String:
		visit(way, set(reflect.ValueOf(v.String()+"x").Convert(v.Type())))
		visit(way, set(reflect.ValueOf("").Convert(v.Type())))
	case reflect.Int:
		visit(way, set(reflect.ValueOf(int(v.Int()+1)).Convert(v.Type())))
		visit(way, set(reflect.ValueOf(int(v.Int()+256)).Convert(v.Type())))
	case reflect.Uint8, reflect.Uint64:
		visit(way, set(reflect.ValueOf(v.Uint()^0x55).Convert(v.Type())))
	}
}

func TestEachFieldIsTold(t *testing.T) {
	there := fullEnd()
	want := there.text(api.Judgement{Fault: -1})
	if want == "" || fullEnd().text(api.Judgement{Fault: -1}) != want {
		t.Fatal("the same end has two texts")
	}
	met := make(map[string]int)
	held := func(way string, change func() func()) {
		restore := change()
		text := there.text(api.Judgement{Fault: -1})
		if text == want || text == "" {
			t.Error(way, "is not told")
		}
		if met[text]++; met[text] > 1 {
			t.Error(way, "is told as something else")
		}
		restore()
	}
	// Two of a kind lie in each list, so of things in whatever order the second one's changes are others than the first one's.
	eachPart("state", reflect.ValueOf(&there.replicas[0].state).Elem(), held)
	eachPart("state", reflect.ValueOf(&there.replicas[1].state).Elem(), held)
	eachPart("client", reflect.ValueOf(&there.clients[0]).Elem(), held)
	eachPart("client", reflect.ValueOf(&there.clients[1]).Elem(), held)
	if len(met) < 200 {
		t.Error("too few fields:", len(met))
	}
	clear(met)
	eachPart("packet", reflect.ValueOf(&there.pool[0]).Elem(), held)
	eachPart("packet", reflect.ValueOf(&there.pool[1]).Elem(), held)
	if there.text(api.Judgement{Fault: -1}) != want {
		t.Error("what was changed is not as it was")
	}
	for i := range there.replicas {
		there.replicas[i].alive = false
		if there.text(api.Judgement{Fault: -1}) == want {
			t.Error("a crashed replica is not told")
		}
		there.replicas[i].alive = true
	}
}

// What was seen: rows with everything in it, and then each thing otherwise.
func TestWhatWasSeenIsTold(t *testing.T) {
	log := someLog("a", "b", "c")
	rows := func() []api.Seen {
		return []api.Seen{
			{Kind: api.SeenAsked, Entry: log[0]}, {Kind: api.SeenAsked, Entry: log[1]},
			{Kind: api.SeenDone, View: 3, Place: 1, Entry: log[0]},
			{Kind: api.SeenUp, Node: 1},
			{Kind: api.SeenDone, View: 2, Place: 1, Entry: log[0]}, {Kind: api.SeenDone, View: 4, Place: 2, Entry: log[1]},
			{Kind: api.SeenUp, Node: 0},
			{Kind: api.SeenLead, View: 2, Log: log[:1]}, {Kind: api.SeenLead, View: 3, Log: log[:2]},
			{Kind: api.SeenReply, Entry: api.Entry{Client: 1, Number: 2}}, {Kind: api.SeenReply, Entry: api.Entry{Client: 2, Number: 3}},
			{Kind: api.SeenTold, Place: 1, Entry: api.Entry{Client: 0, Number: 1}}, {Kind: api.SeenTold, Place: 2, Entry: api.Entry{Client: 1, Number: 1}},
		}
	}
	text := func(l []api.Seen, j api.Judgement) string {
		there := fullEnd()
		there.rows = l
		return there.text(j)
	}
	sure := api.Judgement{Sequence: log[:2], Fault: -1}
	want := text(rows(), sure)
	for name, change := range map[string]func(l []api.Seen) []api.Seen{
		"asked: client":       func(l []api.Seen) []api.Seen { l[1].Entry.Client = 9; return l },
		"asked: number":       func(l []api.Seen) []api.Seen { l[0].Entry.Number = 9; return l },
		"asked: op":           func(l []api.Seen) []api.Seen { l[0].Entry.Op.Slot = 9; return l },
		"asked: one more":     func(l []api.Seen) []api.Seen { return append(l, api.Seen{Kind: api.SeenAsked, Entry: log[2]}) },
		"the least view":      func(l []api.Seen) []api.Seen { l[4].View = 1; return l },
		"the second place's":  func(l []api.Seen) []api.Seen { l[5].View = 5; return l },
		"a start, earlier":    func(l []api.Seen) []api.Seen { l[6], l[5] = l[5], l[6]; return l },
		"a start, later":      func(l []api.Seen) []api.Seen { return append(l, l[3]) },
		"lead: view":          func(l []api.Seen) []api.Seen { l[7].View = 9; return l },
		"lead: log":           func(l []api.Seen) []api.Seen { l[8].Log = log[1:]; return l },
		"lead: length":        func(l []api.Seen) []api.Seen { l[8].Log = log; return l },
		"lead: one less":      func(l []api.Seen) []api.Seen { l[8].Kind = api.SeenTaken; return l },
		"lead: twice":         func(l []api.Seen) []api.Seen { return append(l, l[8]) },
		"reply: client":       func(l []api.Seen) []api.Seen { l[9].Entry.Client = 3; return l },
		"reply: number":       func(l []api.Seen) []api.Seen { l[10].Entry.Number = 1; return l },
		"told: place":         func(l []api.Seen) []api.Seen { l[11].Place = 2; return l },
		"told: nothing there": func(l []api.Seen) []api.Seen { l[11].Place = 0; return l },
		"told: nobody":        func(l []api.Seen) []api.Seen { l[11].Kind = api.SeenTaken; return l },
		"told: the other":     func(l []api.Seen) []api.Seen { l[12].Entry.Client = 0; return l },
	} {
		if text(change(rows()), sure) == want {
			t.Error(name, "is not told")
		}
	}
	for name, change := range map[string]func(l []api.Seen) []api.Seen{
		"asked: order":         func(l []api.Seen) []api.Seen { l[0], l[1] = l[1], l[0]; return l },
		"a greater view":       func(l []api.Seen) []api.Seen { l[2].View = 9; return l },
		"once more, later":     func(l []api.Seen) []api.Seen { return append(l, l[5]) },
		"lead: order, node":    func(l []api.Seen) []api.Seen { l[7], l[8] = l[8], l[7]; l[7].Node = 2; return l },
		"reply: order, result": func(l []api.Seen) []api.Seen { l[9], l[10] = l[10], l[9]; l[9].Result.Code = 3; return l },
		"told: order, less": func(l []api.Seen) []api.Seen {
			l[11], l[12] = l[12], l[11]
			return append(l, api.Seen{Kind: api.SeenTold, Place: 1, Entry: api.Entry{Client: 1}})
		},
		"the event's place":             func(l []api.Seen) []api.Seen { l[3].Event = 9; return l },
		"a draw, which is in the state": func(l []api.Seen) []api.Seen { l[3].Draw = draw(9); return l },
		"down, back, sent, taken": func(l []api.Seen) []api.Seen {
			return append(l, api.Seen{Kind: api.SeenDown, Node: 1}, api.Seen{Kind: api.SeenBack, Node: 1, Log: log}, api.Seen{Kind: api.SeenSent}, api.Seen{Kind: api.SeenTaken})
		},
	} {
		if text(change(rows()), sure) != want {
			t.Error(name, "makes another text")
		}
	}
	for _, j := range []api.Judgement{{Sequence: log[:2], Fault: 12}, {Sequence: log[:1], Fault: -1}, {Sequence: []api.Entry{log[0], log[2]}, Fault: -1}} {
		if text(rows(), j) == want {
			t.Error("the judge's word is not told:", j)
		}
	}
	if text(rows(), api.Judgement{Sequence: log[:2], Fault: 11}) != text(rows(), api.Judgement{Sequence: log[:2], Fault: 12}) {
		t.Error("where the fault is makes another text")
	}
}
