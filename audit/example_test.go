package audit_test

import (
	"testing"

	"amnesia/api"
	"amnesia/audit"
	"amnesia/digest"
	"amnesia/tree"
)

// The chapter's examples.

func TestExample1(t *testing.T) {
	for node := range 3 {
		s := normal(three, node, 0, nil, 0)
		k, e := audit.Claim(three, s)
		if e != api.OK || k.Size != 0 || k.Node != node || k.View != 0 || digest.Print(k.Head) != "e3b0c44298fc1c149afbf4c8996fb92427ae41e4649b934ca495991b7852b855" {
			t.Fatal(k, e)
		}
	}
	if k, e := audit.Claim(three, normal(three, 2, 5, logOf(3), 0)); e != api.OK || k != (api.Claim{Node: 2, View: 5, Head: digest.Sum(nil)}) {
		t.Fatal("what is not carried out is no history:", k, e)
	}
}

func TestExample2(t *testing.T) {
	l := logOf(3)
	a := audit.New()
	expectHear(t, a, claim(nil), nil, api.OK)
	expectHear(t, a, claim(l), nil, api.OK)
	path := []api.Hash{tree.Leaf(l[2])}
	expectHear(t, a, claim(l[:2]), path, api.OK)
	other := claim(otherLog(l, 3))
	expectHear(t, a, other, nil, api.ErrFork)
	expectAuditor(t, a, claim(l), true, 4, api.Fork{A: claim(l), B: other})
}

func TestExample3(t *testing.T) {
	l := logOf(3)
	r, e := audit.Receipt(three, normal(three, 0, 0, l, 3), 2)
	if e != api.OK || audit.Check(r) != api.OK || audit.Confirm(r, l) != api.OK {
		t.Fatal(r, e)
	}
	other := r
	other.Place = 1
	if audit.Check(other) != api.ErrReceipt || audit.Confirm(other, l) != api.ErrReceipt {
		t.Fatal("another place")
	}
	other = r
	other.Result = res(api.ResWritten, 7, "b")
	if audit.Check(other) != api.OK || audit.Confirm(other, l) != api.ErrReceipt {
		t.Fatal("another result")
	}
}
