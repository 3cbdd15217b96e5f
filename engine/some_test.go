package engine_test

import (
	"encoding/hex"
	"fmt"
	"math"
	"math/rand/v2"
	"strings"

	"amnesia/api"
	"amnesia/message"
)

// Drawn setups, events, lines and texts.

func someConfig(r *rand.Rand) api.Config {
	return api.Config{F: pick(r, 1, 1, 1, 2, 3), Room: pick(r, 1, 2, 4, 30, 256), Patience: pick(r, 6, 6, 7, 100), Unguarded: r.IntN(4) == 0}
}

func someSetup(r *rand.Rand) api.Setup {
	s := api.Setup{Config: someConfig(r)}
	for range pick(r, 0, 1, 2, 3, 16) {
		s.Clients = append(s.Clients, api.ClientSetup{Number: pick(r, 0, 0, 3, 1+r.IntN(1000), math.MaxInt-1, math.MaxInt)})
	}
	return s
}

func someValue(r *rand.Rand) string {
	b := make([]byte, pick(r, 0, 1, 1, 1, 2, 64))
	for i := range b {
		b[i] = byte(r.IntN(256))
	}
	return string(b)
}

func someOp(r *rand.Rand) api.Op {
	slot := pick(r, 0, 1, 2, r.IntN(1024), 1023)
	return pick(r, write(slot, someValue(r)), write(slot, "a"), add(someValue(r)), read(slot), count)
}

func someDraw(r *rand.Rand) api.Draw {
	return pick(r, api.Draw{}, lo(1+r.Uint64N(9)), api.Draw{Hi: r.Uint64N(20), Lo: r.Uint64N(20)}, api.Draw{Hi: r.Uint64(), Lo: r.Uint64()}, api.Draw{Hi: math.MaxUint64, Lo: math.MaxUint64})
}

func someNumber(r *rand.Rand) int {
	return pick(r, 0, 1, 2, r.IntN(20), r.IntN(1000), r.Int(), math.MaxInt)
}

// someEvent: one that a line says, with zeros in what its kind does not use.
func someEvent(r *rand.Rand) api.Event {
	a, b, c := someNumber(r), someNumber(r), someNumber(r)
	switch k := api.EventKind(1 + r.IntN(12)); k {
	case api.EventSubmit:
		return api.Event{Kind: k, Client: a, Op: someOp(r)}
	case api.EventRetry:
		return api.Event{Kind: k, Client: a}
	case api.EventDeliver:
		return api.Event{Kind: k, Index: a, Cut: b}
	case api.EventDrop, api.EventCopy:
		return api.Event{Kind: k, Index: a}
	case api.EventSpoil:
		return api.Event{Kind: k, Index: a, At: b, Count: c}
	case api.EventInject:
		return api.Event{Kind: k, Node: a, At: b, Bytes: []byte(strings.Repeat(someValue(r), r.IntN(5)))}
	case api.EventTick:
		return api.Event{Kind: k, Node: a, Cut: b}
	case api.EventCrash:
		return api.Event{Kind: k, Node: a}
	case api.EventRestart:
		return api.Event{Kind: k, Node: a, Draw: someDraw(r), Cut: b}
	case api.EventRound:
		return api.Event{Kind: k, Count: a}
	default:
		return api.Event{Kind: k, Client: a, Node: b, Op: pick(r, read(r.IntN(1024)), count)}
	}
}

func someEvents(r *rand.Rand, most int) []api.Event {
	var l []api.Event
	for range r.IntN(most + 1) {
		l = append(l, someEvent(r))
	}
	return l
}

func someOpText(r *rand.Rand) string {
	return pick(r, fmt.Sprintf("write %d %s", r.IntN(3), pick(r, "61", "62", "-", "00ff")), "append 78", "append -", fmt.Sprintf("read %d", r.IntN(4)), "count", "write 1023 7a")
}

// cutText: mostly nothing.
func cutText(r *rand.Rand) string {
	return pick(r, "", "", "", "", "", "", "", "", " cut 0", fmt.Sprintf(" cut %d", 1+r.IntN(5)))
}

// someForgery: a frame whose sum is right, and that was never sent.
func someForgery(r *rand.Rand, c api.Config) string {
	n := 2*c.F + 1
	view := 1 + r.IntN(3)
	m := pick(r, api.Msg{Kind: api.KindStartView, Node: view % n, View: view}, api.Msg{Kind: api.KindPrepareOK, Node: r.IntN(n), Place: 1},
		api.Msg{Kind: api.KindStartViewChange, Node: r.IntN(n), View: view}, api.Msg{Kind: api.KindGetState, Node: r.IntN(n)})
	m.Vector = make(api.Vector, n)
	b, _ := message.Encode(c, m)
	return hex.EncodeToString(b)
}

// someLine: an event's or a question's line that does something, mostly.
func someLine(r *rand.Rand, s api.Setup) string {
	node, client := r.IntN(2*s.Config.F+1), 0
	if len(s.Clients) > 0 {
		client = r.IntN(len(s.Clients))
	}
	if r.IntN(40) == 0 {
		node, client = pick(r, 7, 8, math.MaxInt), pick(r, 15, 16, math.MaxInt)
	}
	index := pick(r, 0, r.IntN(10), r.IntN(100))
	switch k := r.IntN(100); {
	case k < 12:
		return fmt.Sprintf("submit %d %s", client, someOpText(r))
	case k < 14:
		return fmt.Sprintf("retry %d", client)
	case k < 34:
		return fmt.Sprintf("deliver %d%s", index, cutText(r))
	case k < 36:
		return fmt.Sprintf("drop %d", index)
	case k < 38:
		return fmt.Sprintf("copy %d", index)
	case k < 40:
		return fmt.Sprintf("spoil %d %d %d", index, r.IntN(100), pick(r, 0, 1, 255, 256, r.IntN(256)))
	case k < 42:
		return fmt.Sprintf("inject %d %d %s", pick(r, 0, 7, node), node, pick(r, "-", "616d6e31", someForgery(r, s.Config)))
	case k < 52:
		return fmt.Sprintf("tick %d%s", node, cutText(r))
	case k < 54:
		return fmt.Sprintf("crash %d", node)
	case k < 58:
		return fmt.Sprintf("restart %d %d.%d%s", node, r.IntN(9), r.IntN(9), cutText(r))
	case k < 64:
		return fmt.Sprintf("query %d %d %s", client, node, pick(r, "count", "read 0", "read 1"))
	case k < 76:
		return fmt.Sprintf("round %d", pick(r, 0, 1, 1, 2, 3, 4, 8, 20, 10001))
	case k < 84:
		return fmt.Sprintf("look %d", node)
	case k < 88:
		return fmt.Sprintf("cells %d", node)
	case k < 95:
		return fmt.Sprintf("ask %d", client)
	case k < 97:
		return "pool"
	}
	return "judge"
}

// spaced: a line with more blanks in it, and the odd line ahead of it that says nothing.
func spaced(r *rand.Rand, line string) string {
	if r.IntN(4) == 0 {
		line = strings.ReplaceAll(line, " ", strings.Repeat(" ", 1+r.IntN(3)))
		line = strings.Repeat(" ", r.IntN(3)) + line + strings.Repeat(" ", r.IntN(3))
	}
	if r.IntN(12) == 0 {
		line = pick(r, "", "   ", "# remark", "  #x tick 1", "#") + "\n" + line
	}
	return line
}

// someText: a script of so many lines behind its head, which plays.
func someText(r *rand.Rand, most int) string {
	s := someSetup(r)
	text := ""
	for _, l := range modelLines(modelHead(s)) {
		text += spaced(r, l) + "\n"
	}
	for range r.IntN(most + 1) {
		text += spaced(r, someLine(r, s)) + "\n"
	}
	if r.IntN(3) == 0 {
		text = strings.TrimSuffix(text, "\n")
	}
	return text
}

// mangled: a text with some bytes, words or lines changed.
func mangled(r *rand.Rand, text string) string {
	at := r.IntN(len(text) + 1)
	end := min(len(text), at+1+r.IntN(3))
	all := strings.Split(text, "\n")
	i, k := r.IntN(len(all)), r.IntN(len(all))
	switch r.IntN(10) {
	case 0:
		return text[:at] + text[end:]
	case 1, 2:
		return text[:at] + pick(r, " ", "\n", "0", "1", "-", "#", "\t", "x", "A", ".", "\xff", "9223372036854775807", " cut 1", " unguarded", " count") + text[at:]
	case 3:
		return text[:at] + string(byte(r.IntN(256))) + text[end:]
	case 4:
		all[i], all[k] = all[k], all[i]
	case 5:
		all[i] = all[k]
	case 6:
		all[i] = ""
	case 7:
		all[i] = strings.ToUpper(all[i])
	case 8:
		words := strings.Split(all[i], " ")
		words[r.IntN(len(words))] = pick(r, "0", "07", "x", "count", "cut", "61", "6", "-", "0.5", "1e9", "client", "group", greatest, "9223372036854775808")
		all[i] = strings.Join(words, " ")
	default:
		words := strings.Split(all[i], " ")
		all[i] = strings.Join(words[:r.IntN(len(words))], " ")
	}
	return strings.Join(all, "\n")
}
