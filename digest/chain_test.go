package digest_test

import (
	"math/big"
	"math/rand/v2"
	"slices"
	"strings"
	"testing"

	"garment/digest"
)

// linksAre fails the test unless Links of l returns want.
func linksAre(t *testing.T, l []string, want ...uint64) {
	t.Helper()
	if list := digest.Links(l); !slices.Equal(list, want) {
		t.Errorf("Links(%.200q): %d, not %d", l, list, want)
	}
}

// lists returns lists of texts: the empty one, lists of empty texts, and drawn ones, some of them long.
func lists() [][]string {
	all := [][]string{nil, {}, {""}, {"", ""}, {"\n"}, {"a", ""}, {"", "a"}, make([]string, 300), texts()}
	draw := rand.New(rand.NewPCG(7, 4))
	for n := range 30 {
		list := make([]string, n)
		for i := range list {
			list[i] = drawn(draw, draw.IntN(9))
		}
		all = append(all, list)
	}
	return all
}

// P7.3: the examples of the chapter.
func TestChainExamples(t *testing.T) {
	chainIs(t, 0, "", 11)
	chainIs(t, 98, "a", digest.Of("a\na"))
	chainIs(t, 98, "a", 93756456082016453)
}

// P7.3: digests that were computed elsewhere; the digest before may be any number, and the text may have line ends.
func TestChainNumbers(t *testing.T) {
	chainIs(t, p, "", 11)
	chainIs(t, greatest, "x", 6708120446060873)
	chainIs(t, p-1, "line\n", 1421864580771642171)
	chainIs(t, 1<<61, "\n", 968669744788965)
}

// P7.3: compared with the standard library, and with Join and Of as the chapter defines it.
func TestChain(t *testing.T) {
	list := texts()
	for i, prev := range numbers() {
		for _, s := range []string{"", "\n", "a", "\xff", list[i%len(list)]} {
			chainIs(t, prev, s, chain(prev, s))
			chainIs(t, prev, s, digest.Join(prev, len(s)+1, digest.Of("\n"+s)))
		}
	}
	for _, s := range texts() {
		for _, prev := range []uint64{0, 1, p - 1, p, greatest} {
			chainIs(t, prev, s, chain(prev, s))
		}
	}
}

// P7.3: chains whose digest lies just below P, at 0 and just above it, so that their last sum is reduced or not.
func TestChainNearP(t *testing.T) {
	inverse := new(big.Int).ModInverse(power(2), big64(p))
	for c := range 256 {
		s := string([]byte{byte(c)})
		for _, d := range []uint64{0, 1, uint64(c), uint64(c) + 1, uint64(c) + 2, p - 2, p - 1} {
			// prev * B^2 is what must be added to the digest of the line.
			prev := new(big.Int).Sub(big64(d), big64(of("\n"+s)))
			prev.Mul(prev, inverse).Mod(prev, big64(p))
			chainIs(t, prev.Uint64(), s, d)
			chainIs(t, prev.Uint64()+p, s, d)
		}
	}
}

// P7.3: to continue the digest of a text is to write a line feed and the text behind it.
func TestChainIsALine(t *testing.T) {
	for _, a := range texts() {
		for _, b := range []string{"", "a", "\n", "scan 7", everyByte()} {
			chainIs(t, digest.Of(a), b, digest.Of(a+"\n"+b))
		}
	}
}

// P7.4: the example of the chapter, and the empty list.
func TestLinksExamples(t *testing.T) {
	linksAre(t, []string{"", ""}, 11, 12094627910332)
	linksAre(t, nil)
	linksAre(t, []string{})
}

// P7.4: digests that were computed elsewhere.
func TestLinksNumbers(t *testing.T) {
	linksAre(t, []string{""}, 11)
	linksAre(t, []string{"", "", ""}, 11, 12094627910332, 10534420913575295)
	linksAre(t, []string{"abc"}, 1771524347081232301)
	linksAre(t, []string{"a", "b", "c"}, 12094627910419, 1771427590057949732, 1313622069059402949)
	linksAre(t, []string{"scan 1", "", "scan 2\n"}, 1421534452340639262, 277182022391271983, 338884682431898174)
}

// P7.4: compared with the standard library; a link for each text, that of the first one from 0.
func TestLinks(t *testing.T) {
	for _, l := range lists() {
		linksAre(t, l, links(l)...)
	}
}

// P7.4: the links of a beginning of a list are the beginning of its links, and the last one is the digest of all its lines.
func TestLinksOfBeginnings(t *testing.T) {
	for _, l := range lists() {
		whole := digest.Links(l)
		for n := range l {
			linksAre(t, l[:n], whole[:n]...)
			same(t, "Of the lines", digest.Of("\n"+strings.Join(l[:n+1], "\n")), whole[n])
		}
	}
}

// R3, R7: Links keeps its argument with its spare capacity, and returns new memory in each call.
func TestLinksAreNewMemory(t *testing.T) {
	for _, l := range lists() {
		memory := slices.Concat(l, []string{"spare", "spare", "spare"})
		before := slices.Clone(memory)
		first := digest.Links(memory[:len(l)])
		want := slices.Clone(first)
		if !slices.Equal(memory, before) {
			t.Errorf("Links(%.200q) changes its argument: %.200q", l, memory)
		}
		second := digest.Links(memory[:len(l)])
		first = first[:cap(first)]
		for i := range first {
			first[i] = 55
		}
		if !slices.Equal(second, want) {
			t.Errorf("Links(%.200q): two results share memory", l)
		}
		linksAre(t, l, want...)
	}
}
