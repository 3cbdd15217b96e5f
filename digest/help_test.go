package digest_test

import (
	"crypto/sha256"
	"encoding/hex"
	"math/rand/v2"
	"slices"
	"strings"
	"testing"

	"amnesia/api"
	"amnesia/digest"
)

const digits = "0123456789abcdef"

// published: answers that are told of the function elsewhere.
var published = []struct {
	bytes string
	text  string
}{
	{"", "e3b0c44298fc1c149afbf4c8996fb92427ae41e4649b934ca495991b7852b855"},
	{"a", "ca978112ca1bbdcafac231b39a23dc4da786eff8147c4e72b9807785afee48bb"},
	{"abc", "ba7816bf8f01cfea414140de5dae2223b00361a396177a9cb410ff61f20015ad"},
	{"\xbd", "68325720aabd7c82f30f554b313d0570c95accbb7dc4b5aae11204c08ffe732b"},
	{"\xd3", "28969cdfa74a12c82f3bad960b0b000aca2ac329deea5c2328ebc6f2ba9802c1"},
	{"\x11\xaf", "5ca7133fa735326081558ac312c620eeca9970d1e70a4b95533d956f072d1f98"},
	{"\xc9\x8c\x8e\x55", "7abc22c0ae5af26ce93dbb94433a0e0b2e119d014f8e7f65bd56c61ccccd9504"},
	{"message digest", "f7846f55cf23e14eebeab5b4e1550cad5b509e3348fbc4efa3a1413d393cb650"},
	{"abcdefghijklmnopqrstuvwxyz", "71c480df93d6ae2f1efad1447c66c9525e316218cf51fc8d9ed832f2daf18b73"},
	{"The quick brown fox jumps over the lazy dog", "d7a8fbb307d7809469ca9abcb0082e4f8d5651e46d3cdb762d02d0bf37c9e592"},
	{"The quick brown fox jumps over the lazy dog.", "ef537f25c895bfa782526529a9b63d97aa631564d5d789c2b765448c8635fb6c"},
	{strings.Repeat("\x00", 55), "02779466cdec163811d078815c633f21901413081449002f24aa3e80f0b88ef7"},
	{strings.Repeat("\x00", 56), "d4817aa5497628e7c77e6b606107042bbba3130888c5f47a375e6179be789fbb"},
	{strings.Repeat("\x00", 57), "65a16cb7861335d5ace3c60718b5052e44660726da4cd13bb745381b235a1785"},
	{strings.Repeat("\x00", 64), "f5a5fd42d16a20302798ef6ed309979b43003d2320d9f0e8ea9831a92759fb4b"},
	{"abcdbcdecdefdefgefghfghighijhijkijkljklmklmnlmnomnopnopq", "248d6a61d20638b8e5c026930c3e6039a33ce45964ff2167f6ecedd419db06c1"},
	{"abcdefghbcdefghicdefghijdefghijkefghijklfghijklmghijklmnhijklmnoijklmnopjklmnopqklmnopqrlmnopqrsmnopqrstnopqrstu", "cf5b16a778af8380036ce59e7b0492370b249b11e8f07a51afac45037afee9d1"},
	{"ABCDEFGHIJKLMNOPQRSTUVWXYZabcdefghijklmnopqrstuvwxyz0123456789", "db4bfcbd4da0cd85a60c3c37d3fbd8805c77f15fc6b1fdfe614ee0a7c8fdb4c0"},
	{strings.Repeat("1234567890", 8), "f371bc4a311f2b009eef952dd83ca80e2b60026c8e935592d0f9c308453c813e"},
	{strings.Repeat("\x00", 1000), "541b3e9daa09b20bf85fa273e5cbd3e80185aa4ec298e765db87742b70138a53"},
	{strings.Repeat("A", 1000), "c2e686823489ced2017f6059b8b239318b6364f6dcd835d0a519105a1eadd6e4"},
	{strings.Repeat("U", 1005), "f4d62ddec0f3dd90ea1380fa16a5ff8dc4c54b21740650f24afc4120903552b0"},
	{strings.Repeat("a", 1000000), "cdc76e5c9914fb9281a1c7e284d73e67f1809a48a497200e046d39ccc7112cd0"},
}

// lengths: those at which the filling's form changes, those beside them, and greater ones.
var lengths = []int{0, 1, 2, 31, 32, 54, 55, 56, 57, 62, 63, 64, 65, 118, 119, 120, 121, 127, 128, 129, 183, 184, 191, 192, 193, 1000, 4095, 4096, 4097, 8191, 10007}

func seeded(seed uint64) *rand.Rand { return rand.New(rand.NewPCG(seed, 19)) }

// some: so many bytes, drawn.
func some(r *rand.Rand, n int) []byte {
	b := make([]byte, n)
	for i := range b {
		b[i] = byte(r.Uint32())
	}
	return b
}

func someHash(r *rand.Rand) api.Hash { return api.Hash(some(r, 32)) }

// cut: bytes in pieces of drawn lengths, none of them nil or sharing memory with another.
func cut(r *rand.Rand, b []byte, longest int) [][]byte {
	var pieces [][]byte
	for len(b) > 0 {
		n := min(len(b), r.IntN(longest+1))
		pieces = append(pieces, slices.Clone(b[:n]))
		b = b[n:]
	}
	return pieces
}

// standard: the digest as the standard library has it.
func standard(b []byte) api.Hash { return api.Hash(sha256.Sum256(b)) }

// parts: lists of bytes from texts.
func parts(texts ...string) [][]byte {
	var l [][]byte
	for _, s := range texts {
		l = append(l, []byte(s))
	}
	return l
}

func expectHash(t *testing.T, what string, got, want api.Hash) {
	t.Helper()
	if got != want {
		t.Fatalf("%s: %x, want %x", what, got, want)
	}
}

func expectParsed(t *testing.T, text string, want api.Hash) {
	t.Helper()
	if h, e, at := digest.Parse(text); h != want || e != api.OK || at != 0 {
		t.Fatalf("Parse(%q): %x, %d, %d, want %x", text, h, e, at, want)
	}
}

func expectRefused(t *testing.T, text string, want int) {
	t.Helper()
	if h, e, at := digest.Parse(text); h != (api.Hash{}) || e != api.ErrHex || at != want {
		t.Fatalf("Parse(%q): %x, %d, %d, want ErrHex at %d", text, h, e, at, want)
	}
}

// modelParse: what chapter 19 says of a text, word by word.
func modelParse(text string) (api.Hash, api.Errno, int) {
	head := text[:min(len(text), 64)]
	right := len(head) - len(strings.TrimLeft(head, digits))
	switch {
	case right < len(head):
		return api.Hash{}, api.ErrHex, right
	case len(text) < 64:
		return api.Hash{}, api.ErrHex, len(text)
	case len(text) > 64:
		return api.Hash{}, api.ErrHex, 64
	}
	b, err := hex.DecodeString(text)
	if err != nil {
		panic(err)
	}
	return api.Hash(b), api.OK, 0
}
