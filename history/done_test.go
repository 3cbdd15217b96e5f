package history_test

import (
	"math"
	"testing"

	"amnesia/api"
	"amnesia/history"
)

// P16.2: Done and Lead.

func TestDonePlaces(t *testing.T) {
	all := rowsOf(askedAll(0, eE, eG), []api.Seen{asked(eH), asked(eI)})
	for _, x := range []struct {
		place int
		e     api.Entry
		why   error
	}{
		{math.MinInt, eE, history.ErrGap}, {math.MinInt + 1, eE, history.ErrGap}, {-1, eG, history.ErrGap}, {0, eE, history.ErrGap}, {0, eH, history.ErrGap},
		{1, eE, nil}, {1, eG, history.ErrParted}, {1, eH, history.ErrParted},
		{2, eG, nil}, {2, eE, history.ErrParted}, {2, eI, history.ErrParted}, // the length
		{3, eH, nil}, {3, eI, nil}, {3, eE, history.ErrAgain}, {3, eG, history.ErrAgain}, // the length and 1
		{4, eH, history.ErrGap}, {4, eE, history.ErrGap}, {5, eH, history.ErrGap}, {1 << 32, eE, history.ErrGap}, {1<<32 + 1, eE, history.ErrGap},
		{math.MaxInt - 1, eE, history.ErrGap}, {math.MaxInt, eE, history.ErrGap},
	} {
		rows := append(rowsOf(all), done(1, 0, x.place, x.e))
		if x.why == nil && x.place == 3 {
			expect(t, setup, rows, -1, nil, eE, eG, x.e)
			continue
		}
		fault := -1
		if x.why != nil {
			fault = len(all)
		}
		expect(t, setup, rows, fault, x.why, eE, eG)
	}
	for place, why := range map[int]error{-1: history.ErrGap, 0: history.ErrGap, 1: nil, 2: history.ErrGap} { // behind no sequence at all
		expectLast(t, setup, []api.Seen{asked(eE), done(2, 0, place, eE)}, why)
	}
}

// What parts from the sequence parts in any field of its entry.
func TestPartedInEachField(t *testing.T) {
	e := entry(0, 1, write(7, "a"))
	for _, other := range []api.Entry{
		entry(1, 1, e.Op), entry(0, 2, e.Op), entry(0, 1, write(8, "a")), entry(0, 1, write(7, "b")), entry(0, 1, write(7, "")),
		entry(0, 1, add("a")), entry(0, 1, api.Op{Kind: api.OpRead, Slot: 7, Value: "a"}), {},
	} {
		expect(t, setup, append(askedAll(0, e), asked(other), done(1, 0, 1, other)), 3, history.ErrParted, e)
		expect(t, setup, append(askedAll(0, e), done(1, 0, 1, other)), 2, history.ErrParted, e) // asked for or not
		expect(t, setup, append(askedAll(0, e), done(1, 0, 1, e)), -1, nil, e)
	}
}

func TestUnasked(t *testing.T) {
	other := entry(0, 1, write(7, "z"))
	for _, x := range []struct {
		rows []api.Seen
		why  error
	}{
		{[]api.Seen{done(0, 0, 1, eE)}, history.ErrUnasked},
		{[]api.Seen{asked(eE), done(0, 0, 1, eE)}, nil},
		{[]api.Seen{asked(other), done(0, 0, 1, eE)}, history.ErrUnasked}, // with another Op
		{[]api.Seen{asked(entry(0, 1, write(8, "a"))), done(0, 0, 1, eE)}, history.ErrUnasked},
		{[]api.Seen{asked(entry(0, 1, api.Op{Kind: api.OpRead, Slot: 7, Value: "a"})), done(0, 0, 1, eE)}, history.ErrUnasked},
		{[]api.Seen{asked(entry(0, 2, eE.Op)), done(0, 0, 1, eE)}, history.ErrUnasked},
		{[]api.Seen{asked(entry(1, 1, eE.Op)), done(0, 0, 1, eE)}, history.ErrUnasked},
		{[]api.Seen{asked(entry(1, 0, eE.Op)), done(0, 0, 1, entry(0, 1, eE.Op))}, history.ErrUnasked}, // client and number are two things
		{[]api.Seen{asked(eE), asked(other), done(0, 0, 1, eE)}, nil},                                  // each that was asked
		{[]api.Seen{asked(other), asked(eE), done(0, 0, 1, eE)}, nil},
		{[]api.Seen{asked(eE), asked(other), done(0, 0, 1, other)}, nil},
		{[]api.Seen{asked(eE), asked(eE), asked(eE), done(0, 0, 1, eE)}, nil},
		{[]api.Seen{{Kind: api.SeenReply, Entry: eE, Result: res(1, 7, "a")}}, history.ErrReply}, // what is no Asked asks for nothing
		{[]api.Seen{{Kind: api.SeenUp, Draw: lo(1), Entry: eE}, done(0, 0, 1, eE)}, history.ErrUnasked},
		{[]api.Seen{{Kind: api.SeenTaken, Entry: eE}, done(0, 0, 1, eE)}, history.ErrUnasked},
	} {
		expectLast(t, setup, x.rows, x.why)
	}
	expect(t, setup, []api.Seen{done(0, 0, 1, eE), asked(eE), done(0, 0, 1, eE)}, 0, history.ErrUnasked) // asked later
	// Whatever a client asked, it may be carried out: the judge looks at no operation.
	for _, op := range []api.Op{{}, {Kind: -5, Slot: math.MaxInt, Value: "x"}, write(1024, ""), {Kind: api.OpCount, Slot: 3}} {
		expect(t, setup, append(askedAll(0, entry(3, -1, op), eE), reply(3, -1, api.Result{}), reply(0, 1, res(1, 7, "a"))), -1, nil, entry(3, -1, op), eE)
	}
}

func TestAgain(t *testing.T) {
	same := entry(0, 1, add("x")) // eE's client and number
	for _, x := range []struct {
		rows []api.Seen
		why  error
	}{
		{append(askedAll(0, eE), done(0, 0, 2, eE)), history.ErrAgain},
		{append(askedAll(0, eE), asked(same), done(0, 0, 2, same)), history.ErrAgain},
		{append(askedAll(0, eE, eG, eH), done(0, 0, 4, eE)), history.ErrAgain},
		{append(askedAll(0, eE, eG, eH), done(0, 0, 4, eH)), history.ErrAgain},
		{append(askedAll(0, eE), done(0, 0, 2, same)), history.ErrUnasked}, // asked ahead of Again
		{askedAll(0, eH, eE), nil}, // a lower number behind a higher one is another request
		{askedAll(0, entry(0, 1, count), entry(1, 0, count), entry(1, 1, count), entry(0, 0, count)), nil},
	} {
		expectLast(t, setup, x.rows, x.why)
	}
}

// A Done below, at and above the View of a Lead ahead.
func TestDoneBehindALead(t *testing.T) {
	for _, view := range []int{math.MinInt + 1, -3, 0, 3, math.MaxInt - 1} {
		for _, x := range []struct {
			log  []api.Entry
			well bool
		}{
			{[]api.Entry{eE}, true}, {[]api.Entry{eE, eG}, true}, {[]api.Entry{eG, eE}, false}, {[]api.Entry{eG}, false}, {nil, false}, {[]api.Entry{}, false},
		} {
			for u, fault := range map[int]bool{view - 1: !x.well, math.MinInt: !x.well, view: false, view + 1: false, math.MaxInt: false} {
				var why error
				if fault {
					why = history.ErrLead
				}
				rows := []api.Seen{asked(eE), asked(eG), lead(1, view, x.log...), done(0, u, 1, eE)}
				expectLast(t, setup, rows, why)
				// Likewise where the place was carried out before, in a view that is not below the Lead's.
				rows = []api.Seen{asked(eE), asked(eG), done(2, math.MaxInt, 1, eE), lead(1, view, x.log...), done(0, u, 1, eE)}
				expectLast(t, setup, rows, why)
			}
		}
	}
}

// It is the second place that the log has not, or has another entry at.
func TestDoneBehindALeadAtALaterPlace(t *testing.T) {
	for _, x := range []struct {
		log []api.Entry
		why error
	}{
		{[]api.Entry{eE, eG}, nil}, {[]api.Entry{eE, eG, eH}, nil}, {[]api.Entry{eE}, history.ErrLead}, {[]api.Entry{eE, eH}, history.ErrLead}, {[]api.Entry{eE, eE}, history.ErrLead},
	} {
		rows := append(askedAll(0, eE), asked(eG), lead(1, 2, x.log...), done(0, 1, 2, eG))
		expectLast(t, setup, rows, x.why)
	}
}

// Of several Leads any counts that is above, wherever it stands.
func TestDoneBehindSeveralLeads(t *testing.T) {
	for _, x := range []struct {
		rows []api.Seen
		why  error
	}{
		{[]api.Seen{lead(1, 1), lead(2, 2, eE), done(0, 0, 1, eE)}, history.ErrLead},
		{[]api.Seen{lead(2, 2, eE), lead(1, 1), done(0, 0, 1, eE)}, history.ErrLead},
		{[]api.Seen{lead(1, 1), lead(2, 2, eE), done(0, 1, 1, eE)}, nil},
		{[]api.Seen{lead(2, 2, eE), lead(1, 1), done(0, 1, 1, eE)}, nil},
		{[]api.Seen{lead(2, 2), lead(1, 1, eE), done(0, 1, 1, eE)}, history.ErrLead},
		{[]api.Seen{lead(1, 1, eE), lead(2, 2), done(0, 2, 1, eE)}, nil},
		{[]api.Seen{lead(1, 1, eE), lead(2, 2), lead(0, 3), done(0, 2, 1, eE)}, history.ErrLead},
		{[]api.Seen{lead(0, 3), lead(2, 2), done(0, 3, 1, eE), done(0, 2, 1, eE)}, history.ErrLead},
		{[]api.Seen{done(0, 3, 1, eE), lead(0, 3), lead(2, 2), done(0, 2, 1, eE)}, history.ErrLead},
		{[]api.Seen{done(0, 3, 1, eE), lead(2, 2), lead(0, 3), done(0, 2, 1, eE)}, history.ErrLead},
		{[]api.Seen{done(0, 3, 1, eE), lead(2, 2), lead(0, 3, eE), done(0, 2, 1, eE)}, nil},
		{[]api.Seen{done(0, 0, 1, eE), lead(2, 5, eE), done(0, 0, 1, eE), done(1, 9, 1, eE)}, nil},
	} {
		expectLast(t, setup, rowsOf([]api.Seen{asked(eE)}, x.rows), x.why)
	}
}

// Where two reasons apply the first that is named counts, and the entry of a fault is in no sequence.
func TestWhichReasonOfADone(t *testing.T) {
	higher := lead(1, 9)
	for _, x := range []struct {
		rows     []api.Seen
		why      error
		sequence []api.Entry
	}{
		{[]api.Seen{higher, done(0, 0, 0, eE)}, history.ErrGap, nil},
		{[]api.Seen{higher, done(0, 0, 2, eE)}, history.ErrGap, nil},
		{[]api.Seen{higher, done(0, 0, 1, eE)}, history.ErrUnasked, nil},
		{[]api.Seen{asked(eE), higher, done(0, 0, 1, eE)}, history.ErrLead, nil},
		{[]api.Seen{asked(eE), higher, done(0, 9, 1, eE), done(0, 0, 2, eE)}, history.ErrAgain, []api.Entry{eE}},
		{[]api.Seen{asked(eE), higher, done(0, 9, 1, eE), done(0, 0, 2, entry(0, 1, count))}, history.ErrUnasked, []api.Entry{eE}},
		{[]api.Seen{asked(eE), higher, done(0, 9, 1, eE), done(0, 0, 1, eG)}, history.ErrParted, []api.Entry{eE}},
		{[]api.Seen{asked(eE), higher, done(0, 9, 1, eE), done(0, 0, 1, eE)}, history.ErrLead, []api.Entry{eE}},
	} {
		expect(t, setup, x.rows, len(x.rows)-1, x.why, x.sequence...)
	}
}

// The least View of those that carried out a place counts for a Lead behind.
func TestLeadBehindADone(t *testing.T) {
	for _, view := range []int{math.MinInt, -3, 0, 3, math.MaxInt} {
		for _, u := range []int{math.MinInt, -4, -3, -2, 0, 2, 3, 4, math.MaxInt} {
			for _, x := range []struct {
				log  []api.Entry
				well bool
			}{
				{[]api.Entry{eE, eG}, true}, {[]api.Entry{eE, eG, eH}, true}, {[]api.Entry{eE}, false}, {[]api.Entry{eE, eH}, false}, {[]api.Entry{eG, eE}, false}, {nil, false},
			} {
				var why error
				if u < view && !x.well {
					why = history.ErrLead
				}
				expectLast(t, setup, append(askedAll(u, eE, eG), lead(1, view, x.log...)), why)
				// What was carried out above it as well was still carried out below it.
				above := append(askedAll(u, eE, eG), done(1, math.MaxInt, 2, eG), done(2, math.MaxInt, 1, eE))
				expectLast(t, setup, append(above, lead(1, view, x.log...)), why)
				below := append(askedAll(math.MaxInt, eE, eG), done(1, u, 2, eG), done(2, u, 1, eE))
				expectLast(t, setup, append(below, lead(1, view, x.log...)), why)
			}
		}
	}
}

// Each place has a View of its own.
func TestLeadBehindDonesOfSeveralViews(t *testing.T) {
	rows := []api.Seen{asked(eE), asked(eG), done(0, 1, 1, eE), done(0, 4, 2, eG)}
	for _, x := range []struct {
		view int
		log  []api.Entry
		why  error
	}{
		{1, nil, nil}, {2, nil, history.ErrLead}, {2, []api.Entry{eE}, nil}, {4, []api.Entry{eE}, nil}, {4, []api.Entry{eE, eH}, nil},
		{5, []api.Entry{eE}, history.ErrLead}, {5, []api.Entry{eE, eG}, nil}, {5, []api.Entry{eG, eG}, history.ErrLead}, {4, []api.Entry{eG, eG}, history.ErrLead},
	} {
		expectLast(t, setup, append(rowsOf(rows), lead(1, x.view, x.log...)), x.why)
	}
}

func TestLogs(t *testing.T) {
	for _, view := range []int{math.MinInt, -1, 0, 1, api.MaxView, math.MaxInt} {
		expectLast(t, setup, []api.Seen{lead(1, view), lead(1, view)}, history.ErrLogs)
		expectLast(t, setup, []api.Seen{lead(1, view, eE), asked(eE), lead(2, view, eE)}, history.ErrLogs) // whoever it is, and with whichever log
		expectLast(t, setup, []api.Seen{lead(1, view, eE), lead(1, view, eG)}, history.ErrLogs)
		expectLast(t, setup, []api.Seen{lead(1, view), lead(1, view/2+7), lead(1, view)}, history.ErrLogs)
		expectLast(t, setup, []api.Seen{lead(1, view), lead(1, view/2+7), lead(1, view/2+8)}, nil)
	}
	// ErrLogs ahead of ErrLead.
	rows := append(askedAll(0, eE), lead(1, 1, eE), lead(1, 1))
	expect(t, setup, rows, 3, history.ErrLogs, eE)
	// What is no Lead starts no view.
	expectLast(t, setup, []api.Seen{back(1, 1), done(0, 1, 0, eE)}, history.ErrGap)
	expectLast(t, setup, append(askedAll(1, eE), back(1, 1, eE), lead(1, 1, eE)), nil)
}
