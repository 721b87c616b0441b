package digest_test

import (
	"strings"
	"testing"

	"garment/digest"
)

// P7.1: the examples of the chapter.
func TestOfExamples(t *testing.T) {
	ofIs(t, "", 0)
	ofIs(t, "a", 98)
	ofIs(t, "ab", 107752139564777)
	ofIs(t, "\n", 11)
}

// P7.1: digests that were computed elsewhere, those of texts of all bytes, of several lines, and of long texts among them.
func TestOfTexts(t *testing.T) {
	ofIs(t, "abc", 93853213105299023)
	ofIs(t, "garment", 988211210963620523)
	ofIs(t, "a\na", 93756456082016453)
	ofIs(t, "one line\nanother line\n", 1443179270785502064)
	ofIs(t, "Gr\u00f6\u00dfe 38", 1404330964570429273)
	ofIs(t, "\x00\x00", 1099511628212)
	ofIs(t, "\xff\xff\xff\xff\xff\xff\xff\xff", 1572354738202376414)
	ofIs(t, everyByte(), 1765112195936054250)
	ofIs(t, strings.Repeat("\x00", 1000), 826118819800664102)
	ofIs(t, strings.Repeat("\xff", 4096), 563253961931104609)
	long := make([]byte, 100000)
	for i := range long {
		long[i] = byte(i*i + 7)
	}
	ofIs(t, string(long), 1434081956808284577)
}

// P7.1: each byte counts one more than its value, at the end, at the beginning and in the middle of a text.
func TestOfEveryByte(t *testing.T) {
	for c := range 256 {
		s := string([]byte{byte(c)})
		ofIs(t, s, uint64(c)+1)
		for _, text := range []string{s + s, "x" + s, s + "x", "xy" + s + "z", strings.Repeat("x", 50) + s + strings.Repeat("y", 50)} {
			ofIs(t, text, of(text))
		}
	}
}

// P7.1: compared with the standard library.
func TestOf(t *testing.T) {
	for _, s := range texts() {
		ofIs(t, s, of(s))
	}
}

// P7.1: a text of bytes 0 has another digest with each further one, and so has one of line ends.
func TestOfCountsAllBytes(t *testing.T) {
	for _, c := range []string{"\x00", "\n", "\xff"} {
		length := map[uint64]int{}
		for n := range 2000 {
			d := digest.Of(strings.Repeat(c, n))
			if m, found := length[d]; found {
				t.Errorf("Of of %q: the digest of %d of them is that of %d", c, n, m)
			}
			length[d] = n
		}
	}
}

// P7.1: a digest is reduced after its last byte too; the digest of this text, which was computed elsewhere, is 0, so that those with another last byte lie just below P and just above 0.
func TestOfNearP(t *testing.T) {
	const text = "qpllolonvoiqmfok"
	ofIs(t, text, 0)
	ofIs(t, text+text, 0)
	ofIs(t, text+"a", 98)
	before, last := text[:len(text)-1], text[len(text)-1]
	for c := range 256 {
		s := before + string([]byte{byte(c)})
		ofIs(t, s, (p+uint64(c)-uint64(last))%p)
		ofIs(t, s, of(s))
	}
}
