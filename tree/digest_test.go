package tree_test

import (
	"crypto/sha256"
	"slices"
	"strconv"
	"strings"
	"testing"

	"amnesia/api"
	"amnesia/digest"
	"amnesia/tree"
)

// P20.1: Leaf, Node and Head.

// The bytes of some entries, written out.
func TestLeafByteByByte(t *testing.T) {
	for _, c := range []struct {
		entry api.Entry
		bytes string
	}{
		{api.Entry{}, "\x00\x00\x00\x00\x00"},
		{api.Entry{Client: 1, Number: 2, Op: api.Op{Kind: 3, Slot: 4, Value: "ab"}}, "\x01\x01\x01\x02\x01\x03\x01\x04\x01\x02ab"},
		{api.Entry{Client: 127, Number: 128, Op: api.Op{Kind: 255, Slot: 256}}, "\x01\x7f\x01\x80\x01\xff\x02\x01\x00\x00"},
		{api.Entry{Client: -1}, "\x08\xff\xff\xff\xff\xff\xff\xff\xff\x00\x00\x00\x00"},
		{api.Entry{Number: greatest}, "\x00\x08\x7f\xff\xff\xff\xff\xff\xff\xff\x00\x00\x00"},
		{api.Entry{Op: api.Op{Kind: least}}, "\x00\x00\x08\x80\x00\x00\x00\x00\x00\x00\x00\x00\x00"},
		{api.Entry{Op: api.Op{Slot: -256}}, "\x00\x00\x00\x08\xff\xff\xff\xff\xff\xff\xff\x00\x00"},
		{api.Entry{Op: api.Op{Value: "\x00"}}, "\x00\x00\x00\x00\x01\x01\x00"},
		{api.Entry{Op: api.Op{Value: "\xff\xfe"}}, "\x00\x00\x00\x00\x01\x02\xff\xfe"},
		{api.Entry{Op: api.Op{Value: strings.Repeat("v", 300)}}, "\x00\x00\x00\x00\x02\x01\x2c" + strings.Repeat("v", 300)},
	} {
		expectHash(t, strconv.Quote(c.bytes), tree.Leaf(c.entry), sha256.Sum256([]byte("\x00"+c.bytes)))
	}
}

func TestLeafOfEveryFieldAtItsEdges(t *testing.T) {
	for _, v := range edges {
		for field := range 4 {
			e := entry(3)
			*[]*int{&e.Client, &e.Number, &e.Op.Kind, &e.Op.Slot}[field] = v
			expectHash(t, "field "+strconv.Itoa(field)+" "+strconv.Itoa(v), tree.Leaf(e), modelLeaf(e))
		}
	}
}

func TestLeafOfValues(t *testing.T) {
	for n := range 300 {
		e := api.Entry{Client: 1, Number: n, Op: api.Op{Value: strings.Repeat("\xa5", n)}}
		expectHash(t, "a value of "+strconv.Itoa(n), tree.Leaf(e), modelLeaf(e))
	}
	for _, n := range []int{1000, 65535, 65536, 1 << 20} {
		e := api.Entry{Op: api.Op{Value: strings.Repeat("x", n)}}
		expectHash(t, "a value of "+strconv.Itoa(n), tree.Leaf(e), modelLeaf(e))
	}
}

func TestLeafOfAnyEntries(t *testing.T) {
	r := seeded(1)
	for range 3000 {
		e := someEntry(r)
		expectHash(t, "Leaf", tree.Leaf(e), modelLeaf(e))
	}
}

func TestNode(t *testing.T) {
	r := seeded(2)
	zero, full := api.Hash{}, flipped(api.Hash{}, 7)
	for i := range full {
		full[i] = 255
	}
	l := []api.Hash{zero, full, tree.Leaf(entry(1)), tree.Head(nil), someHash(r), someHash(r)}
	for _, a := range l {
		for _, b := range l {
			text := slices.Concat([]byte{1}, a[:], b[:])
			if len(text) != 65 {
				t.Fatal(len(text))
			}
			expectHash(t, "Node", tree.Node(a, b), sha256.Sum256(text))
			if a != b && tree.Node(a, b) == tree.Node(b, a) {
				t.Fatal("the sides are one")
			}
		}
	}
}

func TestHeadByHalves(t *testing.T) {
	l := logOf(70)
	alike := slices.Repeat([]api.Entry{entry(4)}, 70)
	for n := range 71 {
		expectHash(t, "Head of "+strconv.Itoa(n), tree.Head(l[:n]), modelHead(l[:n]))
		expectHash(t, "Head of alike ones, "+strconv.Itoa(n), tree.Head(alike[:n]), modelHead(alike[:n]))
	}
	for _, n := range []int{255, 256, 257, 1000} {
		expectHash(t, "Head of "+strconv.Itoa(n), tree.Head(logOf(n)), modelHead(logOf(n)))
	}
}

func TestHeadOfNothing(t *testing.T) {
	for _, l := range [][]api.Entry{nil, {}, logOf(3)[:0]} {
		expectHash(t, "Head", tree.Head(l), sha256.Sum256(nil))
	}
}

// Answers that were made elsewhere, by the words of the chapter.
func TestKnownHeads(t *testing.T) {
	var l []api.Entry
	for i := range 7 {
		l = append(l, api.Entry{Client: i, Number: i + 1, Op: api.Op{Kind: api.OpWrite, Slot: 200 * i, Value: strings.Repeat("a", i)}})
	}
	for n, want := range knownHeads {
		if s := digest.Print(tree.Head(l[:n])); s != want {
			t.Fatal(n, s)
		}
	}
}

// knownHeads: of the first 0 to 7 entries.
var knownHeads = [8]string{
	"e3b0c44298fc1c149afbf4c8996fb92427ae41e4649b934ca495991b7852b855",
	"b007f0c1a6c8b935bcf086b31d6c3d749d291a4f581cb737f02cbea7015be616",
	"741eb100d67e0cb4b3a793d767a98a0cb8b480d3d0bbca72ba6fd21bf9cb745b",
	"10fb5b65c792b0821b19a972a4240385e247022771b83d0852b0959cc7b9abd3",
	"c676664286ff7c25b2100e891b8fe406ff3371758f4541b10fd81cb6bebc56ac",
	"3a643d9f06c5d31b18dc7df1bcd1791a8209f01a2a12bb6a039d505c82fff0d2",
	"6b4c9f4e339800f7dfbcae43379d2e528226761156f06dec15982f40e6820c34",
	"31cd796fba104a3b5f5fbbcba538c1bcaf3670eba674ead5031fc5ed1abf9270",
}
