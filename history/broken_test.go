package history_test

import (
	"errors"
	"math"
	"strings"
	"testing"

	"amnesia/api"
	"amnesia/history"
)

// P16.3 and P16.4.

func TestTheVariablesAreUnlike(t *testing.T) {
	texts := make(map[string]bool)
	for i, a := range whys() {
		if a == nil || a.Error() == "" || texts[a.Error()] {
			t.Errorf("%d: %v", i, a)
		}
		texts[a.Error()] = true
		for k, b := range whys() {
			if errors.Is(a, b) != (i == k) {
				t.Errorf("%d and %d: %v, %v", i, k, a, b)
			}
		}
	}
}

// Each of the eleven, by rows that have it; expectWhy holds each answer against all eleven.
func TestVerifyTellsEachReason(t *testing.T) {
	one := askedAll(0, eE)
	for _, x := range []struct {
		rows []api.Seen
		row  int
		why  error
	}{
		{[]api.Seen{{}}, -1, history.ErrRows},
		{[]api.Seen{asked(eG), done(0, 0, 1, eE)}, 1, history.ErrUnasked},
		{append(one, done(0, 0, 2, eE)), 2, history.ErrAgain},
		{append(one, done(0, 0, 1, eG)), 2, history.ErrParted},
		{append(one, done(0, 0, 3, eE)), 2, history.ErrGap},
		{append(one, reply(0, 1, res(api.ResTaken, 7, "a"))), 2, history.ErrReply},
		{append(one, up(0, lo(1)), back(0, 0)), 3, history.ErrForgot},
		{append(one, lead(0, 3)), 2, history.ErrLead},
		{append(one, lead(0, 3, eE), lead(0, 3, eE)), 3, history.ErrLogs},
		{append(one, up(0, lo(1)), sent(api.Packet{})), 3, history.ErrSpoke},
		{append(one, toldOf(0, 2, count, res(api.ResCount, 1, ""))), 2, history.ErrRead},
	} {
		got := history.Verify(setup, x.rows)
		expectWhy(t, got, x.row, x.why)
		if want := (&history.Broken{Row: x.row, Why: x.why}).Error(); got.Error() != want {
			t.Errorf("%q, want %q", got.Error(), want)
		}
	}
	if got := history.Verify(setup, one); got != nil {
		t.Error(got)
	}
}

// An answer is the caller's own: what is done to one is not seen in the next.
func TestBrokensAreApart(t *testing.T) {
	rows := []api.Seen{done(0, 0, 1, eE)}
	for _, s := range []api.Setup{setup, {}} {
		var b *history.Broken
		if !errors.As(history.Verify(s, rows), &b) {
			t.Fatal(b)
		}
		b.Row, b.Why = 77, nil
	}
	expectWhy(t, history.Verify(setup, rows), 0, history.ErrUnasked)
	expectWhy(t, history.Verify(api.Setup{}, rows), -1, history.ErrRows)
}

func TestBrokenError(t *testing.T) {
	other := errors.New("of the caller's own")
	for _, x := range []struct {
		b    *history.Broken
		want string
	}{
		{&history.Broken{}, "row 0: "},
		{&history.Broken{Row: 7}, "row 7: "},
		{&history.Broken{Row: 0, Why: other}, "row 0: of the caller's own"},
		{&history.Broken{Row: 10, Why: history.ErrGap}, "row 10: " + history.ErrGap.Error()},
		{&history.Broken{Row: -1, Why: history.ErrRows}, "row -1: " + history.ErrRows.Error()},
		{&history.Broken{Row: -4096, Why: other}, "row -4096: of the caller's own"},
		{&history.Broken{Row: math.MinInt, Why: other}, "row -9223372036854775808: of the caller's own"},
		{&history.Broken{Row: math.MaxInt, Why: other}, "row 9223372036854775807: of the caller's own"},
		{&history.Broken{Row: 1, Why: errors.New("")}, "row 1: "},
		{&history.Broken{Row: 1, Why: errors.New("a\nb\x00\xff%d")}, "row 1: a\nb\x00\xff%d"},
		{&history.Broken{Row: 1, Why: &history.Broken{Row: 2, Why: other}}, "row 1: row 2: of the caller's own"},
		{&history.Broken{Row: 1, Why: (*history.Broken)(nil)}, "row 1: "},
		{&history.Broken{Row: 1, Why: hollow{}}, "row 1: "},
		{nil, ""},
	} {
		if got := x.b.Error(); got != x.want {
			t.Errorf("%q, want %q", got, x.want)
		}
	}
	for _, why := range whys() {
		if got := (&history.Broken{Row: 3, Why: why}).Error(); got != "row 3: "+why.Error() || strings.Count(got, "row 3") != 1 {
			t.Errorf("%q", got)
		}
	}
}

// hollow is an error that has no text: it panics. P1 of DOC.md: no call does.
type hollow struct{}

func (hollow) Error() string { panic("no text") }

func TestBrokenUnwrap(t *testing.T) {
	other := errors.New("of the caller's own")
	for _, why := range append(whys(), other, nil) {
		b := &history.Broken{Row: 3, Why: why}
		if b.Unwrap() != why {
			t.Errorf("%v, want %v", b.Unwrap(), why)
		}
		if why != nil && !errors.Is(b, why) {
			t.Errorf("errors.Is of %v and %v", b, why)
		}
	}
	var none *history.Broken
	if none.Unwrap() != nil || none.Error() != "" {
		t.Error(none.Unwrap(), none.Error())
	}
	if errors.Is(none, history.ErrGap) {
		t.Error("a nil one is broken for no reason")
	}
}
