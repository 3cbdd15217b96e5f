package tree_test

import (
	"testing"

	"amnesia/api"
	"amnesia/digest"
	"amnesia/tree"
)

// The chapter's five examples.

// five: the entries a to e, and their Leaves.
func five() ([]api.Entry, [5]api.Hash) {
	l := logOf(5)
	var leaves [5]api.Hash
	for i := range leaves {
		leaves[i] = tree.Leaf(l[i])
	}
	return l, leaves
}

func TestExampleHead(t *testing.T) {
	l, h := five()
	if s := digest.Print(tree.Head(nil)); s != "e3b0c44298fc1c149afbf4c8996fb92427ae41e4649b934ca495991b7852b855" {
		t.Fatal(s)
	}
	expectHash(t, "one", tree.Head(l[:1]), h[0])
	expectHash(t, "three", tree.Head(l[:3]), tree.Node(tree.Node(h[0], h[1]), h[2]))
	expectHash(t, "five", tree.Head(l), tree.Node(tree.Node(tree.Node(h[0], h[1]), tree.Node(h[2], h[3])), h[4]))
}

func TestExampleInclusion(t *testing.T) {
	l, h := five()
	path, e := tree.Inclusion(l[:3], 3)
	expectPath(t, "of 3", path, e, []api.Hash{tree.Node(h[0], h[1])})
	path, e = tree.Inclusion(l[:3], 1)
	expectPath(t, "of 1", path, e, []api.Hash{h[1], h[2]})
	path, e = tree.Inclusion(l[:3], 4)
	expectNoPath(t, "of 4", path, e, api.ErrPlace)
}

func TestExampleConsistency(t *testing.T) {
	l, h := five()
	for _, c := range []struct {
		n, size int
		want    []api.Hash
	}{
		{3, 2, []api.Hash{h[2]}},
		{3, 1, []api.Hash{h[1], h[2]}},
		{3, 3, nil},
		{3, 0, nil},
		{5, 3, []api.Hash{h[2], h[3], tree.Node(h[0], h[1]), h[4]}},
	} {
		path, e := tree.Consistency(l[:c.n], c.size)
		expectPath(t, "Consistency", path, e, c.want)
	}
}

func TestExampleIncluded(t *testing.T) {
	l, h := five()
	head, path := tree.Head(l[:3]), []api.Hash{tree.Node(h[0], h[1])}
	expectIncluded(t, api.OK, head, 3, 3, l[2], path)
	expectIncluded(t, api.ErrProof, head, 3, 2, l[2], path)
	expectIncluded(t, api.ErrHead, head, 3, 3, l[1], path)
}

func TestExampleExtends(t *testing.T) {
	l, h := five()
	two, three := tree.Head(l[:2]), tree.Head(l[:3])
	expectExtends(t, api.OK, two, 2, three, 3, h[2:3])
	expectExtends(t, api.ErrHead, two, 2, three, 3, h[:1])
	expectExtends(t, api.ErrSize, three, 3, two, 2, h[2:3])
}
