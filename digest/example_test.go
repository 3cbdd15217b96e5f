package digest_test

import (
	"testing"

	"amnesia/digest"
)

// The chapter's four examples.

func TestExampleNoBytes(t *testing.T) {
	if s := digest.Print(digest.Sum([]byte{})); s != "e3b0c44298fc1c149afbf4c8996fb92427ae41e4649b934ca495991b7852b855" {
		t.Fatal(s)
	}
}

func TestExampleSum(t *testing.T) {
	if s := digest.Print(digest.Sum([]byte("abc"))); s != "ba7816bf8f01cfea414140de5dae2223b00361a396177a9cb410ff61f20015ad" {
		t.Fatal(s)
	}
}

func TestExampleJoin(t *testing.T) {
	if s := digest.Print(digest.Join(parts("a", "", "bc")...)); s != "ba7816bf8f01cfea414140de5dae2223b00361a396177a9cb410ff61f20015ad" {
		t.Fatal(s)
	}
}

func TestExampleParse(t *testing.T) {
	expectRefused(t, "ba78", 4)
	expectRefused(t, "Ba", 0)
}
