package engine_test

import (
	"encoding/hex"
	"fmt"
	"math/big"
	"regexp"
	"strconv"
	"strings"
	"testing"

	"amnesia/api"
	"amnesia/cluster"
	"amnesia/history"
	"amnesia/ledger"
)

// The model of this layer: lines by patterns, numbers as big ones, reports by fmt, straight from the cluster.

var (
	numberForm = regexp.MustCompile(`^(0|[1-9][0-9]*)$`)
	bodyForm   = pattern(`submit N (write N B|append B|read N|count)|retry N|(deliver|tick) N( cut N)?|(drop|copy) N|spoil N N N|inject N N B|crash N|restart N D( cut N)?|query N N (read N|count)|round N|(look|cells|ask) N|pool|judge`)
	groupForm  = pattern(`group N N N( unguarded)?`)
	clientForm = pattern(`client N`)
)

// pattern: the pattern of a whole line, N for a number, B for bytes, D for a draw. (Draws alone have a point in them.)
func pattern(form string) *regexp.Regexp {
	digits := `(?:0|[1-9][0-9]*)`
	form = strings.NewReplacer("N", digits, "B", `(?:-|(?:[0-9a-f][0-9a-f])+)`, "D", digits+`\.`+digits).Replace(form)
	return regexp.MustCompile(`^(?:` + form + `)$`)
}

// modelWords: a line's words; none, if it says nothing.
func modelWords(line string) []string {
	var words []string
	for _, w := range strings.Split(line, " ") {
		if w != "" {
			words = append(words, w)
		}
	}
	if len(words) > 0 && words[0][0] == '#' {
		return nil
	}
	return words
}

// modelTakes: is a line one of those that there are? Its numbers are looked at word by word; where bytes stand, any digits may.
func modelTakes(line string) bool {
	words := modelWords(line)
	plain := strings.Join(words, " ")
	if !bodyForm.MatchString(plain) && !groupForm.MatchString(plain) && !clientForm.MatchString(plain) {
		return false
	}
	for i, w := range words {
		isBytes := words[0] == "inject" && i == 3 || words[0] == "submit" && (words[2] == "write" && i == 4 || words[2] == "append" && i == 3)
		if isBytes {
			continue
		}
		bits := 63
		if strings.Contains(w, ".") {
			bits = 64
		}
		for _, half := range strings.Split(w, ".") {
			if n, is := new(big.Int).SetString(half, 10); is && numberForm.MatchString(half) && n.BitLen() > bits {
				return false
			}
		}
	}
	return true
}

// modelLines: a text's lines.
func modelLines(text string) []string {
	all := strings.Split(text, "\n")
	if all[len(all)-1] == "" {
		all = all[:len(all)-1]
	}
	return all
}

// modelParse: all lines of a text that say something, behind each other, and the first fault.
func modelParse(text string) (said [][]string, line int, e api.Errno) {
	if len(text) > api.MaxText {
		return nil, 0, api.ErrText
	}
	groups, body := 0, 0
	all := modelLines(text)
	for i, l := range all {
		words := modelWords(l)
		switch {
		case i >= api.MaxLines:
			return nil, api.MaxLines + 1, api.ErrText
		case len(words) == 0:
			continue
		case !modelTakes(l):
			return nil, i + 1, api.ErrLine
		}
		isGroup, isClient := words[0] == "group", words[0] == "client"
		if isGroup && groups > 0 || !isGroup && groups == 0 || isClient && body > 0 {
			return nil, i + 1, api.ErrOrder
		}
		if isGroup {
			groups++
		} else if !isClient {
			body++
		}
		said = append(said, words)
	}
	if groups == 0 {
		return nil, len(all) + 1, api.ErrOrder
	}
	return said, 0, api.OK
}

func modelNumber(word string) int {
	n, err := strconv.Atoi(word)
	if err != nil {
		panic(err)
	}
	return n
}

func modelBytes(word string) string {
	b, err := hex.DecodeString(strings.TrimPrefix(word, "-"))
	if err != nil {
		panic(err)
	}
	return string(b)
}

func modelOp(words []string) api.Op {
	switch words[0] {
	case "write":
		return write(modelNumber(words[1]), modelBytes(words[2]))
	case "append":
		return add(modelBytes(words[1]))
	case "read":
		return read(modelNumber(words[1]))
	}
	return count
}

// modelCut: what stands behind the word cut.
func modelCut(words []string) int {
	if n := len(words); words[n-2] == "cut" {
		return modelNumber(words[n-1])
	}
	return 0
}

// modelEvent: the event of a line that is right; false, if it is a question's or the head's.
func modelEvent(words []string) (api.Event, bool) {
	n := func(i int) int { return modelNumber(words[i]) }
	switch words[0] {
	case "submit":
		return api.Event{Kind: api.EventSubmit, Client: n(1), Op: modelOp(words[2:])}, true
	case "retry":
		return api.Event{Kind: api.EventRetry, Client: n(1)}, true
	case "deliver":
		return api.Event{Kind: api.EventDeliver, Index: n(1), Cut: modelCut(words)}, true
	case "drop":
		return api.Event{Kind: api.EventDrop, Index: n(1)}, true
	case "copy":
		return api.Event{Kind: api.EventCopy, Index: n(1)}, true
	case "spoil":
		return api.Event{Kind: api.EventSpoil, Index: n(1), At: n(2), Count: n(3)}, true
	case "inject":
		return api.Event{Kind: api.EventInject, At: n(1), Node: n(2), Bytes: []byte(modelBytes(words[3]))}, true
	case "tick":
		return api.Event{Kind: api.EventTick, Node: n(1), Cut: modelCut(words)}, true
	case "crash":
		return api.Event{Kind: api.EventCrash, Node: n(1)}, true
	case "restart":
		hi, low, _ := strings.Cut(words[2], ".")
		d := api.Draw{}
		fmt.Sscan(hi, &d.Hi)
		fmt.Sscan(low, &d.Lo)
		return api.Event{Kind: api.EventRestart, Node: n(1), Draw: d, Cut: modelCut(words)}, true
	case "query":
		return api.Event{Kind: api.EventQuery, Client: n(1), Node: n(2), Op: modelOp(words[3:])}, true
	case "round":
		return api.Event{Kind: api.EventRound, Count: n(1)}, true
	}
	return api.Event{}, false
}

// modelSetup: the setup and the events of lines that are right.
func modelSetup(said [][]string) (s api.Setup, events []api.Event) {
	for _, words := range said {
		if e, is := modelEvent(words); is {
			events = append(events, e)
		}
		switch words[0] {
		case "group":
			s.Config = api.Config{F: modelNumber(words[1]), Room: modelNumber(words[2]), Patience: modelNumber(words[3]), Unguarded: len(words) == 5}
		case "client":
			s.Clients = append(s.Clients, api.ClientSetup{Number: modelNumber(words[1])})
		}
	}
	return s, events
}

func hexOf(value string) string {
	if value == "" {
		return "-"
	}
	return fmt.Sprintf("%x", value)
}

func drawText(d api.Draw) string { return fmt.Sprintf("%d.%d", d.Hi, d.Lo) }

func modelOpText(op api.Op) string {
	switch op.Kind {
	case api.OpWrite:
		return fmt.Sprintf("write %d %s", op.Slot, hexOf(op.Value))
	case api.OpAppend:
		return "append " + hexOf(op.Value)
	case api.OpRead:
		return fmt.Sprintf("read %d", op.Slot)
	}
	return "count"
}

// modelLine: the line of an event that one says.
func modelLine(e api.Event) string {
	cut := ""
	if e.Cut > 0 {
		cut = fmt.Sprintf(" cut %d", e.Cut)
	}
	switch e.Kind {
	case api.EventSubmit:
		return fmt.Sprintf("submit %d %s", e.Client, modelOpText(e.Op))
	case api.EventRetry:
		return fmt.Sprintf("retry %d", e.Client)
	case api.EventDeliver:
		return fmt.Sprintf("deliver %d%s", e.Index, cut)
	case api.EventDrop:
		return fmt.Sprintf("drop %d", e.Index)
	case api.EventCopy:
		return fmt.Sprintf("copy %d", e.Index)
	case api.EventSpoil:
		return fmt.Sprintf("spoil %d %d %d", e.Index, e.At, e.Count)
	case api.EventInject:
		return fmt.Sprintf("inject %d %d %s", e.At, e.Node, hexOf(string(e.Bytes)))
	case api.EventTick:
		return fmt.Sprintf("tick %d%s", e.Node, cut)
	case api.EventCrash:
		return fmt.Sprintf("crash %d", e.Node)
	case api.EventRestart:
		return fmt.Sprintf("restart %d %s%s", e.Node, drawText(e.Draw), cut)
	case api.EventRound:
		return fmt.Sprintf("round %d", e.Count)
	}
	return fmt.Sprintf("query %d %d %s", e.Client, e.Node, modelOpText(e.Op))
}

func modelHead(s api.Setup) string {
	text := fmt.Sprintf("group %d %d %d", s.Config.F, s.Config.Room, s.Config.Patience)
	if s.Config.Unguarded {
		text += " unguarded"
	}
	for _, c := range s.Clients {
		text += fmt.Sprintf("\nclient %d", c.Number)
	}
	return text + "\n"
}

func modelResult(r api.Result) string {
	return map[int]string{
		api.ResWritten: fmt.Sprintf("written %d %s", r.Slot, hexOf(r.Value)),
		api.ResTaken:   fmt.Sprintf("taken %d %s", r.Slot, hexOf(r.Value)),
		api.ResFull:    "full",
		api.ResFound:   fmt.Sprintf("found %d %s", r.Slot, hexOf(r.Value)),
		api.ResNone:    fmt.Sprintf("none %d", r.Slot),
		api.ResCount:   fmt.Sprintf("count %d", r.Slot),
		api.ResRefused: "refused",
	}[r.Code]
}

// modelRows: what is told of what is seen of one event.
func modelRows(rows []api.Seen) string {
	text, sent := "", 0
	for _, row := range rows {
		e := row.Entry
		switch row.Kind {
		case api.SeenSent:
			sent++
		case api.SeenDone:
			text += fmt.Sprintln("done", row.Node, row.View, row.Place, e.Client, e.Number)
		case api.SeenLead:
			text += fmt.Sprintln("lead", row.Node, row.View, len(row.Log))
		case api.SeenReply:
			text += fmt.Sprintln("reply", e.Client, e.Number, modelResult(row.Result))
		case api.SeenTold:
			text += fmt.Sprintln("told", e.Client, e.Number, row.Node, row.Place, modelResult(row.Result))
		case api.SeenDown:
			text += fmt.Sprintln("down", row.Node)
		case api.SeenUp:
			text += fmt.Sprintln("up", row.Node, drawText(row.Draw))
		case api.SeenBack:
			text += fmt.Sprintln("back", row.Node, row.View, len(row.Log))
		}
	}
	if sent > 0 {
		text += fmt.Sprintln("sent", sent)
	}
	return text
}

func modelLook(s api.State) string {
	text := "recovering\n"
	switch s.Status {
	case api.StatusNormal:
		text = fmt.Sprintln("normal", s.View, len(s.Log), s.Commit)
	case api.StatusChange:
		text = fmt.Sprintln("changing", s.View, s.Last, len(s.Log), s.Commit)
	}
	text += "vector"
	for _, d := range s.Vector {
		text += " " + drawText(d)
	}
	return text + "\n"
}

func modelCells(s api.State) string {
	text, l := "", ledger.New()
	for _, e := range s.Log[:s.Commit] {
		l.Do(e.Op)
	}
	for slot := range api.MaxSlots {
		if value, taken := l.Get(slot); taken {
			text += fmt.Sprintln("cell", slot, hexOf(value))
		}
	}
	return text
}

func modelAsk(c api.ClientLook) string {
	answer := modelResult(c.Result)
	if c.Waits {
		answer = "waits"
	} else if c.Result == (api.Result{}) {
		answer = "none"
	}
	return fmt.Sprintf("client %d %s\nseen %d\n", c.Number, answer, c.Seen)
}

func modelJudge(t *testing.T, s api.Setup, rows []api.Seen) string {
	t.Helper()
	p, e := history.Premises(s.Config, rows)
	j, errno := history.Judge(s, rows)
	if e != api.OK || errno != api.OK {
		t.Fatal(e, errno)
	}
	text := fmt.Sprintf("few %d\nfresh %d\ngenuine %d\nsequence %d\nfault %d\n", p.Few, p.Fresh, p.Genuine, len(j.Sequence), j.Fault)
	return strings.ReplaceAll(text, "-1", "-")
}

// modelPlay: the report of a script that Parse takes, of a setup that may be; and, beside, what each line told.
func modelPlay(t *testing.T, said [][]string) (string, [][2]string) {
	t.Helper()
	setup, _ := modelSetup(said)
	u, e := cluster.New(setup)
	if e != api.OK {
		t.Fatal(e)
	}
	var rows []api.Seen
	var told [][2]string
	report := ""
	for _, words := range said {
		if words[0] == "group" || words[0] == "client" {
			continue
		}
		tells := ""
		event, is := modelEvent(words)
		if is {
			seen, e := u.Do(event)
			rows = append(rows, seen...)
			if tells = modelRows(seen); e != api.OK {
				tells = fmt.Sprintln("!", int(e))
			}
		} else {
			tells = modelAnswer(t, u, setup, rows, words)
		}
		told = append(told, [2]string{strings.Join(words, " "), tells})
		report += "> " + strings.Join(words, " ") + "\n" + tells
	}
	return report, told
}

// modelAnswer: what a question tells.
func modelAnswer(t *testing.T, u *cluster.Cluster, setup api.Setup, rows []api.Seen, words []string) string {
	t.Helper()
	switch words[0] {
	case "pool":
		return fmt.Sprintln("pool", len(u.Pool()))
	case "judge":
		return modelJudge(t, setup, rows)
	case "ask":
		if c, is := u.Client(modelNumber(words[1])); is {
			return modelAsk(c)
		}
	case "look":
		if s, is := u.Look(modelNumber(words[1])); is {
			return modelLook(s)
		}
	case "cells":
		if s, is := u.Look(modelNumber(words[1])); is {
			return modelCells(s)
		}
	}
	return "gone " + words[1] + "\n"
}
