package audit_test

import (
	"testing"

	"amnesia/api"
	"amnesia/audit"
	"amnesia/tree"
)

// P21.1: Check.

func expectCheck(t *testing.T, what string, r api.Receipt, want api.Errno) {
	t.Helper()
	if e := audit.Check(r); e != want {
		t.Fatalf("%s: %d, want %d: %+v", what, e, want, r)
	}
}

func TestCheckOfWhatWasGiven(t *testing.T) {
	for n := range 20 {
		for place := 1; place <= n; place++ {
			r, e := audit.Receipt(five, normal(five, 2, 2, logOf(n), n), place)
			if e != api.OK {
				t.Fatal(e)
			}
			expectCheck(t, "as given", r, api.OK)
		}
	}
}

// Of a claim that may not be Check says so, whatever else is wrong.
func TestCheckOfWrongClaims(t *testing.T) {
	r := receiptOf(t, logOf(5), 3, api.Result{})
	for _, k := range wrongClaims(r.Claim) {
		other := r
		other.Claim = k
		expectCheck(t, "a claim that may not be", other, api.ErrClaim)
		other.Place, other.Path, other.Entry = 0, nil, stranger
		expectCheck(t, "a claim that may not be, and all else wrong", other, api.ErrClaim)
		expectCheck(t, "nothing but a claim that may not be", api.Receipt{Claim: k}, api.ErrClaim)
	}
}

// Each field of a claim at the ends of what it may be.
func TestCheckOfClaimsAtTheirEnds(t *testing.T) {
	r := receiptOf(t, logOf(5), 3, api.Result{})
	for _, node := range []int{0, 1, 6} {
		for _, view := range []int{0, 1, api.MaxView - 1, api.MaxView} {
			r.Claim.Node, r.Claim.View = node, view
			expectCheck(t, "who tells it, and in which view", r, api.OK)
		}
	}
	expectCheck(t, "of one", receiptOf(t, logOf(1), 1, api.Result{}), api.OK)
	for _, place := range []int{1, 128, 129, 256} {
		expectCheck(t, "of the most", receiptOf(t, logOf(256), place, api.Result{}), api.OK)
		expectCheck(t, "of too many", receiptOf(t, logOf(257), place, api.Result{}), api.ErrClaim)
	}
	for _, place := range []int{least, -1, 0, 1, greatest} {
		expectCheck(t, "of none", api.Receipt{Place: place, Claim: claim(nil)}, api.ErrReceipt)
	}
	expectCheck(t, "zero", api.Receipt{}, api.ErrReceipt)
}

func TestCheckOfAnotherPlace(t *testing.T) {
	for n := 1; n <= 17; n++ {
		for place := 1; place <= n; place++ {
			r := receiptOf(t, logOf(n), place, api.Result{})
			for other := -1; other <= n+1; other++ {
				if r.Place = other; other != place {
					expectCheck(t, "another place", r, api.ErrReceipt)
				}
			}
			for _, other := range []int{least, least + place, -place, place + 256, place + 1<<32, greatest} {
				r.Place = other
				expectCheck(t, "no place", r, api.ErrReceipt)
			}
		}
	}
}

func TestCheckOfAnotherEntry(t *testing.T) {
	for n := 1; n <= 9; n++ {
		l := logOf(n)
		for place := 1; place <= n; place++ {
			r := receiptOf(t, l, place, api.Result{})
			for _, change := range []func(*api.Entry){
				func(e *api.Entry) { e.Client++ },
				func(e *api.Entry) { e.Number++ },
				func(e *api.Entry) { e.Op.Kind++ },
				func(e *api.Entry) { e.Op.Slot = -e.Op.Slot - 1 },
				func(e *api.Entry) { e.Op.Value += "\x00" },
				func(e *api.Entry) { *e = api.Entry{} },
				func(e *api.Entry) { *e = stranger },
			} {
				other := r
				change(&other.Entry)
				expectCheck(t, "another entry", other, api.ErrReceipt)
			}
			for i, e := range l {
				if other := r; i+1 != place {
					other.Entry = e
					expectCheck(t, "the entry of another place", other, api.ErrReceipt)
				}
			}
		}
	}
}

func TestCheckOfAnotherPathOrHead(t *testing.T) {
	for n := 1; n <= 17; n++ {
		for place := 1; place <= n; place++ {
			r := receiptOf(t, logOf(n), place, api.Result{})
			for _, path := range spoilt(r.Path) {
				other := r
				other.Path = path
				expectCheck(t, "another path", other, api.ErrReceipt)
			}
			for bit := range 256 {
				if bit%16 == place%16 {
					other := r
					other.Claim.Head = flipped(r.Claim.Head, bit)
					expectCheck(t, "another head", other, api.ErrReceipt)
				}
			}
			for _, head := range []api.Hash{{}, tree.Head(logOf(n - 1)), tree.Head(logOf(n + 1)), tree.Head(otherLog(logOf(n), place))} {
				other := r
				other.Claim.Head = head
				expectCheck(t, "another log's head", other, api.ErrReceipt)
			}
		}
	}
}

// Another size is taken where the way up from that place is the same, as chapter 20 says, and nowhere else.
func TestCheckOfAnotherSize(t *testing.T) {
	met := make(map[api.Errno]int)
	for n := 1; n <= 17; n++ {
		for place := 1; place <= n; place++ {
			r := receiptOf(t, logOf(n), place, api.Result{})
			for _, size := range []int{0, place - 1, n - 1, n + 1, n + 2, 2 * n, 3 * n, 255, 256} {
				r.Claim.Size = size
				want := api.ErrReceipt
				if tree.Included(r.Claim.Head, size, place, r.Entry, r.Path) == api.OK {
					want = api.OK
				}
				if size < place && want == api.OK {
					t.Fatal(size, place)
				}
				met[want]++
				expectCheck(t, "another size", r, want)
			}
		}
	}
	r := receiptOf(t, logOf(3), 1, api.Result{})
	r.Claim.Size = 4
	expectCheck(t, "the same way up", r, api.OK)
	r.Claim.Size = 5
	expectCheck(t, "another way up", r, api.ErrReceipt)
	expectEnough(t, met, map[api.Errno]int{api.OK: 50, api.ErrReceipt: 500})
}

func TestCheckDoesNotAskTheResult(t *testing.T) {
	r := receiptOf(t, logOf(5), 3, api.Result{})
	for _, result := range []api.Result{{}, res(api.ResWritten, 8, "c"), res(api.ResRefused, 0, ""), res(-5, least, long(1000)), res(greatest, greatest, "")} {
		r.Result = result
		expectCheck(t, "any result", r, api.OK)
	}
}
