package digest

import (
	"crypto/sha256"
	"encoding/hex"
	"strings"
	"testing"
)

// library: the digest, by another hand.
func library(text string) string {
	s := sha256.Sum256([]byte(text))
	return hex.EncodeToString(s[:])
}

// bytesOf: so many bytes, all values among them.
func bytesOf(n int) string {
	b := make([]byte, n)
	for i := range b {
		b[i] = byte(i*167 + i>>8)
	}
	return string(b)
}

func TestExample(t *testing.T) {
	want := "ba7816bf8f01cfea414140de5dae2223b00361a396177a9cb410ff61f20015ad"
	if got := Of("abc"); got != want {
		t.Errorf("Of(abc): %s; want %s", got, want)
	}
}

// Every length around the ends of blocks, where the filling takes one block more.
func TestLengths(t *testing.T) {
	for n := range 5 * blockSize {
		if got, want := Of(bytesOf(n)), library(bytesOf(n)); got != want {
			t.Errorf("Of %d bytes: %s; want %s", n, got, want)
		}
	}
}

func TestLongTexts(t *testing.T) {
	for _, text := range []string{bytesOf(4096), bytesOf(1 << 16), strings.Repeat("a", 1000000)} {
		if got, want := Of(text), library(text); got != want {
			t.Errorf("Of %d bytes: %s; want %s", len(text), got, want)
		}
	}
}

// Each byte of a digest is one of its digits, and there are neither more nor fewer.
func TestIs(t *testing.T) {
	good := Of("abc")
	for i := range good {
		for c := range 256 {
			text := good[:i] + string([]byte{byte(c)}) + good[i+1:]
			want := '0' <= c && c <= '9' || 'a' <= c && c <= 'f'
			if got := Is(text); got != want {
				t.Errorf("Is(%q): %v", text, got)
			}
		}
		if Is(good[:i]) || Is(good[i+1:]) || Is(good+good[i:]) {
			t.Errorf("Is of another length than that of %q", good)
		}
	}
}
