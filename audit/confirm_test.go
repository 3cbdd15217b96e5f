package audit_test

import (
	"slices"
	"testing"

	"amnesia/api"
	"amnesia/audit"
	"amnesia/ledger"
)

// P21.1: Confirm.

func expectConfirm(t *testing.T, what string, r api.Receipt, log []api.Entry, want api.Errno) {
	t.Helper()
	if e := audit.Confirm(r, log); e != want {
		t.Fatalf("%s: %d, want %d: %+v, %+v", what, e, want, r, log)
	}
}

// resultsOf: of a log of any entries.
func resultsOf(l []api.Entry) []api.Result {
	var ops []api.Op
	for _, e := range l {
		ops = append(ops, e.Op)
	}
	_, results := ledger.Replay(ops)
	return results
}

// Check's errors come first, whatever the log is.
func TestConfirmHasChecksErrors(t *testing.T) {
	l := logOf(5)
	r := receiptOf(t, l, 3, resultsOf(l)[2])
	for _, log := range [][]api.Entry{nil, l, l[:4], logOf(9), otherLog(l, 1)} {
		for _, k := range wrongClaims(r.Claim) {
			other := r
			other.Claim = k
			expectConfirm(t, "a claim that may not be", other, log, api.ErrClaim)
		}
		for _, place := range []int{least, -1, 0, 1, 2, 4, 5, 6, greatest} {
			other := r
			other.Place = place
			expectConfirm(t, "another place", other, log, api.ErrReceipt)
		}
		for _, path := range spoilt(r.Path) {
			other := r
			other.Path = path
			expectConfirm(t, "another path", other, log, api.ErrReceipt)
		}
		other := r
		other.Entry = l[3]
		expectConfirm(t, "another entry", other, log, api.ErrReceipt)
		expectConfirm(t, "zero", api.Receipt{}, log, api.ErrReceipt)
		expectConfirm(t, "of none", api.Receipt{Claim: claim(nil)}, log, api.ErrReceipt)
	}
	expectConfirm(t, "it holds itself", r, l, api.OK)
}

func TestConfirmAgainstLogs(t *testing.T) {
	l := logOf(20)
	for size := 1; size <= 14; size++ {
		for place := 1; place <= size; place++ {
			r := receiptOf(t, l[:size], place, resultsOf(l)[place-1])
			for n := range l {
				want := api.OK
				if n < size {
					want = api.ErrReceipt
				}
				expectConfirm(t, "shorter or longer", r, l[:n], want)
			}
			for other := 1; other <= len(l); other++ { // ahead of the place, at it, behind it, and behind the claim's size
				want := api.ErrReceipt
				if other > size {
					want = api.OK
				}
				expectConfirm(t, "another entry", r, otherLog(l, other), want)
				expectConfirm(t, "an entry that may not be", r, with(l, other, stranger), want)
			}
			expectConfirm(t, "two exchanged", r, slices.Concat(l[1:2], l[:1], l[2:]), api.ErrReceipt)
			expectConfirm(t, "any entries behind", r, append(slices.Clone(l[:size]), slices.Repeat([]api.Entry{stranger}, 400)...), api.OK)
			expectConfirm(t, "none", r, nil, api.ErrReceipt)
		}
	}
}

func wantOf(holds bool) api.Errno {
	if holds {
		return api.OK
	}
	return api.ErrReceipt
}

func TestConfirmOfAnotherResult(t *testing.T) {
	l := logOf(12)
	for place := 1; place <= len(l); place++ {
		r := receiptOf(t, l, place, resultsOf(l)[place-1])
		expectConfirm(t, "the ledger's", r, l, api.OK)
		for _, change := range []func(*api.Result){
			func(x *api.Result) { x.Code++ },
			func(x *api.Result) { x.Slot++ },
			func(x *api.Result) { x.Value += "x" },
			func(x *api.Result) { *x = api.Result{} },
			func(x *api.Result) { *x = res(api.ResRefused, 0, "") },
			func(x *api.Result) { *x = res(greatest, least, long(1000)) },
		} {
			other := r
			change(&other.Result)
			expectCheck(t, "another result", other, api.OK)
			expectConfirm(t, "another result", other, l, api.ErrReceipt)
		}
	}
}

// A result hangs on the operations ahead of the place, and on none behind it.
func TestConfirmCarriesOutUpToThePlace(t *testing.T) {
	l := []api.Entry{entry(0, 1, read(7)), entry(0, 2, count), entry(0, 3, write(7, "a")), entry(0, 4, read(7)), entry(0, 5, count)}
	want := []api.Result{res(api.ResNone, 7, ""), res(api.ResCount, 0, ""), res(api.ResWritten, 7, "a"), res(api.ResFound, 7, "a"), res(api.ResCount, 1, "")}
	for place := range l {
		for other := range l {
			r := receiptOf(t, l, place+1, want[other])
			expectConfirm(t, "of that place alone", r, l, wantOf(place == other))
		}
	}
}

// A log may be any list: of what may be no operation the ledger answers the zero result.
func TestConfirmAgainstAnyList(t *testing.T) {
	l := []api.Entry{
		stranger, entry(0, 0, write(7, "a")), entry(0, 0, write(7, "a")), {}, entry(99, least, read(7)), entry(-1, greatest, api.Op{Kind: api.OpCount, Slot: 1}),
		entry(3, 3, write(1024, "b")), entry(3, 2, write(8, long(65))), entry(3, 1, count), entry(3, 1, add(long(100000))), entry(3, 1, add("")), stranger,
	}
	want := []api.Result{
		{}, res(api.ResWritten, 7, "a"), res(api.ResTaken, 7, "a"), {}, res(api.ResFound, 7, "a"), {},
		{}, {}, res(api.ResCount, 1, ""), {}, res(api.ResWritten, 8, ""), {},
	}
	for size := 1; size <= len(l); size++ {
		for place := 1; place <= size; place++ {
			r := receiptOf(t, l[:size], place, want[place-1])
			expectConfirm(t, "any list", r, l, api.OK)
			r.Result = res(api.ResRefused, 0, "")
			expectConfirm(t, "another result", r, l, api.ErrReceipt)
		}
	}
	same := slices.Repeat([]api.Entry{stranger}, 300) // more than a log may have, all alike
	for _, place := range []int{1, 2, 100, 256} {
		expectConfirm(t, "all alike", receiptOf(t, same[:256], place, api.Result{}), same, api.OK)
		expectConfirm(t, "too short", receiptOf(t, same[:256], place, api.Result{}), same[:255], api.ErrReceipt)
	}
}

// A claim whose size is another than its head's log's, and which Check takes, is not confirmed.
func TestConfirmOfAnotherSize(t *testing.T) {
	l := logOf(8)
	r := receiptOf(t, l[:3], 1, resultsOf(l)[0])
	r.Claim.Size = 4
	expectCheck(t, "the same way up", r, api.OK)
	for n := range l {
		expectConfirm(t, "another size", r, l[:n], api.ErrReceipt)
	}
}
