package digest_test

import (
	"math/rand/v2"
	"slices"
	"strings"
	"testing"

	"garment/digest"
)

// changed returns s with another byte at this place.
func changed(s string, place int, c byte) string {
	return s[:place] + string([]byte{c}) + s[place+1:]
}

// P7.6: a text in which a single byte differs has another digest, whichever byte it is and wherever it is.
func TestOneByteDiffers(t *testing.T) {
	for _, s := range []string{"a", "ab", "garment", "one line\nanother\n", "\x00\x00\x00", "\xff\xff\xff\xff\xff\xff\xff\xff\xff", everyByte()} {
		digests := map[uint64]string{digest.Of(s): s}
		for place := range len(s) {
			for c := range 256 {
				text := changed(s, place, byte(c))
				d := digest.Of(text)
				if other, found := digests[d]; found && other != text {
					t.Errorf("Of: %d is the digest of %q and of %q", d, text, other)
				}
				digests[d] = text
			}
		}
	}
}

// P7.6: two texts that differ in a single byte anywhere have different digests, also if they are long.
func TestOneByteOfALongTextDiffers(t *testing.T) {
	draw := rand.New(rand.NewPCG(7, 6))
	for range 30 {
		s := drawn(draw, 30000)
		place := draw.IntN(len(s))
		text := changed(s, place, s[place]+byte(1+draw.IntN(255)))
		if digest.Of(s) == digest.Of(text) {
			t.Errorf("Of: the byte %d does not count", place)
		}
	}
}

// P7.6: the chains differ from the changed text on, and agree before it.
func TestChainsDifferFromTheChangeOn(t *testing.T) {
	draw := rand.New(rand.NewPCG(7, 7))
	for _, l := range lists() {
		before := digest.Links(l)
		for n, s := range l {
			if s == "" {
				continue
			}
			place := draw.IntN(len(s))
			other := slices.Clone(l)
			other[n] = changed(s, place, s[place]+byte(1+draw.IntN(255)))
			after := digest.Links(other)
			for i := range l {
				if (before[i] == after[i]) != (i < n) {
					t.Errorf("Links: the text %d is changed, the links %d are %d and %d", n, i, before[i], after[i])
				}
			}
		}
	}
}

// P7.6: the digest of a concatenation is Join of those of its parts, wherever it is divided.
func TestJoinOfParts(t *testing.T) {
	for _, s := range texts() {
		whole := digest.Of(s)
		for n := range len(s) + 1 {
			joinIs(t, digest.Of(s[:n]), len(s)-n, digest.Of(s[n:]), whole)
		}
	}
	for _, s := range texts() {
		long := strings.Repeat("x", 50000)
		joinIs(t, digest.Of(s), len(long), digest.Of(long), digest.Of(s+long))
	}
}

// P7.6: it does not matter which of two joins is done first.
func TestJoinDoesNotDependOnGrouping(t *testing.T) {
	draw := rand.New(rand.NewPCG(7, 8))
	list := numbers()
	for i, a := range list {
		b, c := list[(i*31+3)%len(list)], list[(i*43+5)%len(list)]
		for range 20 {
			n, m := draw.IntN(1<<62)>>draw.IntN(62), draw.IntN(1<<62)>>draw.IntN(62)
			first, second := digest.Join(a, n, b), digest.Join(b, m, c)
			same(t, "Join", digest.Join(first, m, c), digest.Join(a, n+m, second))
		}
		same(t, "Join of no texts", digest.Join(digest.Join(a, 0, b), 0, c), digest.Join(a, 0, digest.Join(b, 0, c)))
	}
}

// P7.6: Parse of Hex is the digest, and Hex of Parse the notation.
func TestParseOfHex(t *testing.T) {
	for _, s := range texts() {
		d := digest.Of(s)
		parses(t, digest.Hex(d), d)
		got, _ := digest.Parse(digest.Hex(d))
		hexIs(t, got, digest.Hex(d))
	}
	for _, d := range numbers() {
		parses(t, digest.Hex(d%p), d%p)
	}
}

// P7.6: all digests are below P.
func TestDigestsAreBelowP(t *testing.T) {
	below := func(call string, d uint64) {
		t.Helper()
		if d >= p {
			t.Errorf("%s: %d is not below P", call, d)
		}
	}
	for _, s := range texts() {
		below("Of", digest.Of(s))
	}
	for _, l := range lists() {
		for _, d := range digest.Links(l) {
			below("Links", d)
		}
	}
	for _, a := range numbers() {
		for _, n := range []int{-1, 0, 1, 2, 1000, p} {
			for _, b := range []uint64{0, 1, a, p - 1, p, p + 1, greatest} {
				below("Join", digest.Join(a, n, b))
			}
		}
		for _, s := range []string{"", "a", "\n", "\xff"} {
			below("Chain", digest.Chain(a, s))
		}
	}
}
