package engine_test

import (
	"strings"
	"testing"

	"amnesia/api"
)

// Each row of the table of what is told.

// roomyHead: a group with room for all the requests below.
const roomyHead = "group 1 30 6\nclient 0\nclient 41\n"

func TestReplies(t *testing.T) {
	text := roomyHead
	for _, x := range []struct{ line, reply string }{
		{"submit 0 write 7 61", "reply 0 1 written 7 61"},
		{"submit 0 write 7 62", "reply 0 2 taken 7 61"},
		{"submit 1 read 7", "reply 1 42 found 7 61"},
		{"submit 0 read 8", "reply 0 3 none 8"},
		{"submit 1 count", "reply 1 43 count 1"},
		{"submit 0 append -", "reply 0 4 written 8 -"},
		{"submit 0 write 8 62", "reply 0 5 taken 8 -"},
		{"submit 0 read 8", "reply 0 6 found 8 -"},
		{"submit 0 write 0 -", "reply 0 7 written 0 -"},
		{"submit 0 write 1023 00ff0a", "reply 0 8 written 1023 00ff0a"},
		{"submit 0 append 61", "reply 0 9 full"},
		{"submit 0 read 1023", "reply 0 10 found 1023 00ff0a"},
		{"submit 0 count", "reply 0 11 count 4"},
		{"submit 1 write 5 " + strings.Repeat("5a", 64), "reply 1 44 written 5 " + strings.Repeat("5a", 64)},
		{"submit 1 read 0", "reply 1 45 found 0 -"},
	} {
		text += x.line + "\nround 4\n"
		got := toldOf(t, text, "reply")
		if got[len(got)-1] != x.reply {
			t.Fatal(got, x)
		}
		client, number, result := strings.Split(x.reply, " ")[1], strings.Split(x.reply, " ")[2], strings.SplitN(x.reply, " ", 4)[3]
		if ask := behind(t, text+"ask "+client); len(ask) != 2 || ask[0] != "client "+number+" "+result {
			t.Fatal(ask, x)
		}
	}
	expectTold(t, text+"cells 1", "cell 0 -", "cell 5 "+strings.Repeat("5a", 64), "cell 7 61", "cell 8 -", "cell 1023 00ff0a")
	expectTold(t, text+"ask 1", "client 45 found 0 -", "seen 15")
}

func TestReadings(t *testing.T) {
	text := roomyHead + "submit 0 write 7 61\nround 4\nsubmit 1 append -\nround 5\n"
	for _, x := range []struct{ line, told string }{
		{"query 0 0 read 7", "told 0 1 0 2 found 7 61"},
		{"query 0 1 read 8", "told 0 2 1 2 found 8 -"},
		{"query 1 2 read 9", "told 1 1 2 2 none 9"},
		{"query 0 2 count", "told 0 3 2 2 count 2"},
		{"query 1 0 read 1023", "told 1 2 0 2 none 1023"},
	} {
		text += x.line + "\n"
		expectTold(t, text, "sent 1")
		text += "round 2\n"
		got := toldOf(t, text, "told")
		if got[len(got)-1] != x.told {
			t.Fatal(got, x)
		}
	}
	expectTold(t, text+"ask 0", "client 1 written 7 61", "seen 2")
	early := "group 1 4 6\nclient 0\nquery 0 2 count\nround 2\n"
	expectToldOf(t, early, "told", "told 0 1 2 0 count 0")
	expectTold(t, early+"ask 0", "client 0 none", "seen 0") // a reading is no request
}

func TestDownUpBackLead(t *testing.T) {
	expectTold(t, head+"crash 1", "down 1")
	expectTold(t, head+"crash 1\ncrash 1")
	expectTold(t, head+"restart 1 0.5")
	expectTold(t, head+"crash 1\nrestart 1 17.3", "up 1 17.3", "sent 2")
	expectTold(t, head+"crash 1\nrestart 1 18446744073709551615.0", "up 1 18446744073709551615.0", "sent 2")
	expectTold(t, "group 3 4 6\ncrash 6\nrestart 6 0.1", "up 6 0.1", "sent 6")
	expectTold(t, head+"crash 1\nrestart 1 0.5\ndeliver 0\ndeliver 0\ndeliver 0\ndeliver 0", "back 1 0 0")
	behindOne := head + "submit 0 write 7 61\nround 5\ncrash 2\n" + strings.Repeat("drop 0\n", 30) + "restart 2 0.5\n"
	expectTold(t, behindOne+"deliver 0", "sent 1")
	expectTold(t, behindOne+"deliver 0\ndeliver 0\ndeliver 0\ndeliver 0", "done 2 0 1 0 1", "back 2 0 1")
	change := head + "submit 0 write 7 61\nround 5\n" + strings.Repeat("drop 0\n", 30) + strings.Repeat("tick 1\n", 6)
	expectTold(t, change+"look 1", "changing 1 0 1 1", "vector 0.0 0.0 0.0")
	expectToldOf(t, change+"deliver 1\nround 2\n", "lead", "lead 1 1 1")
}

// A cut: down is told ahead of what went out, though it comes behind that.
func TestCuts(t *testing.T) {
	expectTold(t, head+"tick 0", "sent 2")
	expectTold(t, head+"tick 0 cut 0", "sent 2")
	expectTold(t, head+"tick 0 cut 1", "down 0")
	expectTold(t, head+"tick 0 cut 2", "down 0", "sent 1")
	expectTold(t, head+"tick 0 cut 3", "down 0", "sent 2")
	expectTold(t, head+"tick 0 cut "+greatest, "down 0", "sent 2")
	expectTold(t, head+"tick 1 cut 1", "down 1")
	expectTold(t, head+"crash 0\ntick 0 cut 1")
	expectTold(t, head+"submit 0 count\ndeliver 0", "sent 2")
	expectTold(t, head+"submit 0 count\ndeliver 0 cut 2", "down 0", "sent 1")
	expectTold(t, head+"submit 0 count\ndeliver 0 cut 0", "sent 2")
	expectTold(t, head+"crash 2\nrestart 2 0.5 cut 2", "up 2 0.5", "down 2", "sent 1")
	expectTold(t, head+"crash 2\nrestart 2 0.5 cut 1", "up 2 0.5", "down 2")
	expectTold(t, head+"restart 2 0.5 cut 1")
}

// What tells nothing, and what tells only what is sent.
func TestQuietEvents(t *testing.T) {
	for _, line := range []string{"retry 0", "deliver 0", "drop 0", "copy 5", "spoil 0 0 1", "inject 0 1 -", "tick 1", "restart 0 0.1", "drop " + greatest} {
		expectTold(t, head+line)
	}
	expectTold(t, head+"submit 0 count", "sent 3")
	expectTold(t, "group 3 9 6\nclient 0\nsubmit 0 count", "sent 7")
	expectTold(t, head+"submit 0 count\nretry 0", "sent 3")
	expectTold(t, head+"round 1", "sent 2")
	expectTold(t, head+"crash 0\nround 1")
	expectReport(t, "group 1 4 6\n")
	expectReport(t, head)
}

// Refused events tell their error; they change nothing, and what comes behind them is as without.
func TestRefusedEvents(t *testing.T) {
	for _, line := range []string{
		"submit 2 count", "submit " + greatest + " count", "submit 0 read 1024", "submit 0 write 1024 -", "submit 0 write 0 " + strings.Repeat("61", 65), "submit 0 append " + strings.Repeat("61", 65),
		"retry 2", "spoil 0 0 0", "spoil 0 0 256", "spoil 0 0 " + greatest, "inject 0 3 -", "inject 3 0 -", "inject 6 0 -", "inject 9 0 -", "inject 0 7 -", "inject " + greatest + " 0 -",
		"inject 0 1 " + strings.Repeat("61", api.MaxFrame+1), "tick 3", "tick 3 cut 1", "crash 3", "crash " + greatest, "restart 3 0.1", "restart 0 0.0", "restart 0 0.0 cut 1",
		"query 2 0 count", "query 0 3 count", "query 0 0 read 1024", "round 0", "round 10001", "round " + greatest,
	} {
		expectTold(t, head+line, "! 150")
		expectReport(t, head+"submit 0 count\n"+line+"\npool\n", "> submit 0 count", "sent 3", "> "+line, "! 150", "> pool", "pool 3")
	}
	expectTold(t, "group 1 4 6\nsubmit 0 count", "! 150")
	expectTold(t, "group 1 4 6\nclient 9223372036854775806\nsubmit 0 count", "sent 3")
	expectTold(t, "group 1 4 6\nclient 9223372036854775806\nsubmit 0 count\nsubmit 0 count", "! 150")
	expectTold(t, head+"inject 0 1 "+strings.Repeat("61", api.MaxFrame))
	expectTold(t, head+"spoil 0 0 255")
	expectTold(t, head+"inject 8 2 -")
}

// Behind MaxEvents events each further one is refused, be it one that may be or not; questions are answered all the same. Refused events and questions do not count.
func TestTooManyEvents(t *testing.T) {
	full := head + "retry 9\npool\n" + strings.Repeat("retry 0\n", api.MaxEvents-1) + "round 0\njudge\n"
	expectTold(t, full+"retry 0")
	full += "submit 0 count\n"
	expectTold(t, full, "sent 3")
	for _, line := range []string{"retry 0", "retry 9", "round 1", "round 0", "tick 0 cut 1", "submit 1 count"} {
		expectTold(t, full+line, "! 151")
	}
	expectTold(t, full+"retry 0\npool", "pool 3")
	expectTold(t, full+"tick 0\nask 0", "client 1 waits", "seen 0")
	expectTold(t, full+"tick 0\njudge", "few -", "fresh -", "genuine -", "sequence 0", "fault -")
}

func TestLook(t *testing.T) {
	expectTold(t, head+"look 0", "normal 0 0 0", "vector 0.0 0.0 0.0")
	expectTold(t, "group 3 9 6\nlook 6", "normal 0 0 0", "vector 0.0 0.0 0.0 0.0 0.0 0.0 0.0")
	expectTold(t, head+"crash 0\nlook 0", "gone 0")
	for _, node := range []string{"3", "7", "9", greatest} {
		expectTold(t, head+"look "+node, "gone "+node)
		expectTold(t, head+"cells "+node, "gone "+node)
	}
	expectTold(t, head+"crash 2\nrestart 2 3.4\nlook 2", "recovering", "vector 0.0 0.0 3.4")
	expectTold(t, head+"crash 2\nrestart 2 3.4\ndeliver 0\nlook 0", "normal 0 0 0", "vector 0.0 0.0 3.4")
	expectTold(t, head+strings.Repeat("tick 2\n", 6)+"look 2", "changing 1 0 0 0", "vector 0.0 0.0 0.0")
	pending := head + "submit 0 write 7 61\ndeliver 0\n" // the entry is in the log, and not carried out
	expectTold(t, pending+"look 0", "normal 0 1 0", "vector 0.0 0.0 0.0")
	expectTold(t, pending+"cells 0")
	expectTold(t, pending+"look 1", "normal 0 0 0", "vector 0.0 0.0 0.0")
	later := head + "submit 0 write 7 61\nround 5\ncrash 0\nround 12\ncrash 1\n" // 2 is alone, in view 1
	expectTold(t, later+"look 2", "normal 1 1 1", "vector 0.0 0.0 0.0")
	expectTold(t, later+"round 6\nlook 2", "changing 2 1 1 1", "vector 0.0 0.0 0.0")
	expectTold(t, later+"round 20\nlook 1", "gone 1")
}

func TestCells(t *testing.T) {
	expectTold(t, head+"cells 0")
	text := head + "submit 0 write 9 61\nround 4\nsubmit 0 write 3 -\nround 4\nsubmit 1 append 0a0b\nround 5\n"
	all := []string{"cell 3 -", "cell 9 61", "cell 10 0a0b"}
	for _, node := range []string{"0", "1", "2"} {
		expectTold(t, text+"cells "+node, all...)
	}
	expectTold(t, text+"crash 1\ncells 1", "gone 1")
	expectTold(t, text+"crash 1\nrestart 1 0.5\ncells 1")
	expectTold(t, text+"crash 1\nrestart 1 0.5\nround 3\ncells 1", all...)
	expectTold(t, text+strings.Repeat("tick 2\n", 6)+"look 2", "changing 1 0 3 3", "vector 0.0 0.0 0.0")
	expectTold(t, text+strings.Repeat("tick 2\n", 6)+"cells 2", all...)
}

func TestAsk(t *testing.T) {
	expectTold(t, head+"ask 0", "client 0 none", "seen 0")
	expectTold(t, head+"ask 1", "client 5 none", "seen 0")
	for _, client := range []string{"2", "7", "15", "16", greatest} {
		expectTold(t, head+"ask "+client, "gone "+client)
	}
	expectTold(t, "group 1 4 6\nask 0", "gone 0")
	expectTold(t, "group 1 4 6\nclient "+greatest+"\nask 0", "client "+greatest+" none", "seen 0")
	expectTold(t, head+"submit 1 count\nask 1", "client 6 waits", "seen 0")
	expectTold(t, head+"submit 1 count\nask 0", "client 0 none", "seen 0")
	expectTold(t, head+"submit 1 count\nround 4\nask 1", "client 6 count 0", "seen 1")
	expectTold(t, head+"submit 1 count\nround 4\nsubmit 1 read 3\nask 1", "client 7 waits", "seen 1")
	expectTold(t, head+"submit 1 count\nround 4\nsubmit 1 read 3\nround 4\nask 1", "client 7 none 3", "seen 2")
	expectTold(t, head+"submit 1 count\nsubmit 1 read 3\nround 4\nask 1", "client 7 none 3", "seen 2")
	expectTold(t, head+"submit 0 count\nround 5\nquery 1 2 count\nround 2\nask 1", "client 5 none", "seen 1") // what it has seen of another's
}

func TestPool(t *testing.T) {
	expectTold(t, head+"pool", "pool 0")
	expectTold(t, head+"submit 0 count\npool", "pool 3")
	expectTold(t, head+"submit 0 count\ncopy 1\npool", "pool 4")
	expectTold(t, head+"submit 0 count\ndrop 1\npool", "pool 2")
	expectTold(t, head+"submit 0 count\ndeliver 0\npool", "pool 4")
	expectTold(t, head+"inject 0 1 -\npool", "pool 1")
}

// Rounds in which several things are seen tell them in the order in which they are seen.
func TestOrderOfWhatIsTold(t *testing.T) {
	text := "group 1 9 6\nclient 0\nclient 0\nsubmit 0 write 7 61\nsubmit 1 append 62\nquery 0 1 count\nround 5\n"
	expectReport(t, text, "> submit 0 write 7 61", "sent 3", "> submit 1 append 62", "sent 3", "> query 0 1 count", "sent 1", "> round 5",
		"told 0 1 1 0 count 0", "done 0 0 1 0 1", "done 0 0 2 1 1", "reply 0 1 written 7 61", "done 1 0 1 0 1", "done 2 0 1 0 1", "reply 1 1 written 8 62", "done 1 0 2 1 1", "done 2 0 2 1 1", "sent ..")
	back := text + "crash 0\nround 8\nsubmit 0 count\nrestart 0 1.0\nround 8\n"
	expectToldOf(t, back, "down lead up back reply", "reply 0 1 written 7 61", "reply 1 1 written 8 62", "down 0", "lead 1 1 2", "up 0 1.0", "back 0 1 3", "reply 0 2 count 2")
}

// Setups that may not be: line 0, and an empty report; ErrConfig ahead of ErrSetup, and both behind Parse's errors.
func TestSetupsThatMayNotBe(t *testing.T) {
	expectNoPlay := func(text string, want api.Errno) {
		t.Helper()
		expectOutcome(t, text, api.Outcome{Err: want})
	}
	for _, group := range []string{"group 0 4 6", "group 4 4 6", "group 1 0 6", "group 1 257 6", "group 1 4 5", "group 1 4 101", "group " + greatest + " 4 6", "group 1 " + greatest + " 6", "group 1 4 " + greatest + " unguarded", "group 0 0 0"} {
		for _, rest := range []string{"\n", "\nclient 0\n", "\ntick 0\njudge\n", strings.Repeat("\nclient 0", 17)} {
			expectNoPlay(group+rest, api.ErrConfig)
		}
		expectWrong(t, group+"\nx\n", 2, api.ErrLine)
		expectWrong(t, group+"\n"+group+"\n", 2, api.ErrOrder)
	}
	many := "group 1 4 6" + strings.Repeat("\nclient 3", 17)
	expectNoPlay(many, api.ErrSetup)
	expectNoPlay(many+"\npool\n", api.ErrSetup)
	expectWrong(t, many+"\npool\nx", 20, api.ErrLine)
	expectReport(t, "group 1 4 6"+strings.Repeat("\nclient 3", 16)+"\nask 15\nask 16", "> ask 15", "client 3 none", "seen 0", "> ask 16", "gone 16")
}
