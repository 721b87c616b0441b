package digest_test

import (
	"math"
	"math/big"
	"math/rand/v2"
	"strings"
	"testing"

	"garment/digest"
)

const (
	// p is P of the chapter.
	p = 2305843009213693951

	// greatest is the greatest number.
	greatest = math.MaxUint64
)

// big64 returns d as a number of the standard library, which serves as the oracle.
func big64(d uint64) *big.Int {
	return new(big.Int).SetUint64(d)
}

// power returns B^n modulo P.
func power(n int) *big.Int {
	return new(big.Int).Exp(big64(1099511628211), big.NewInt(int64(n)), big64(p))
}

// of returns what the chapter says of Of: the sum of the bytes, each one more than it is, times B to the number of bytes behind it.
func of(s string) uint64 {
	sum := new(big.Int)
	for i := range len(s) {
		term := big.NewInt(int64(s[i]) + 1)
		sum.Add(sum, term.Mul(term, power(len(s)-1-i)))
	}
	return sum.Mod(sum, big64(p)).Uint64()
}

// join returns what the chapter says of Join.
func join(a uint64, n int, b uint64) uint64 {
	sum := new(big.Int).Mul(big64(a), power(max(n, 0)))
	sum.Add(sum, big64(b))
	return sum.Mod(sum, big64(p)).Uint64()
}

// chain returns what the chapter says of Chain.
func chain(prev uint64, s string) uint64 {
	return join(prev, len(s)+1, of("\n"+s))
}

// links returns what the chapter says of Links.
func links(l []string) []uint64 {
	var list []uint64
	for i, s := range l {
		prev := uint64(0)
		if i > 0 {
			prev = list[i-1]
		}
		list = append(list, chain(prev, s))
	}
	return list
}

// same fails the test unless got is want.
func same(t *testing.T, call string, got, want uint64) {
	t.Helper()
	if got != want {
		t.Errorf("%.200s: %d, not %d", call, got, want)
	}
}

// ofIs fails the test unless Of of s is want.
func ofIs(t *testing.T, s string, want uint64) {
	t.Helper()
	if d := digest.Of(s); d != want {
		t.Errorf("Of(%.200q): %d, not %d", s, d, want)
	}
}

// joinIs fails the test unless Join of a, n and b is want.
func joinIs(t *testing.T, a uint64, n int, b, want uint64) {
	t.Helper()
	if d := digest.Join(a, n, b); d != want {
		t.Errorf("Join(%d, %d, %d): %d, not %d", a, n, b, d, want)
	}
}

// chainIs fails the test unless Chain of prev and s is want.
func chainIs(t *testing.T, prev uint64, s string, want uint64) {
	t.Helper()
	if d := digest.Chain(prev, s); d != want {
		t.Errorf("Chain(%d, %.200q): %d, not %d", prev, s, d, want)
	}
}

// everyByte returns the text of all bytes in ascending order.
func everyByte() string {
	text := make([]byte, 256)
	for i := range text {
		text[i] = byte(i)
	}
	return string(text)
}

// drawn returns a text of n drawn bytes, many of them extreme.
func drawn(draw *rand.Rand, n int) string {
	extreme := "\x00\xff\n\n\r a0\x7f\x80"
	text := make([]byte, n)
	for i := range text {
		text[i] = byte(draw.IntN(256))
		if draw.IntN(3) == 0 {
			text[i] = extreme[draw.IntN(len(extreme))]
		}
	}
	return string(text)
}

// texts returns texts of all kinds: empty, with line ends, with every byte, beyond UTF-8, long, and drawn ones.
func texts() []string {
	list := []string{
		"", "a", "b", "ab", "ba", "\n", "\n\n", "a\n", "\na", "a\nb", "one line\nanother\n", "\r\n", "\x00", "\x00\x00", "\xff", "\xff\xff\xff", "Gr\u00f6\u00dfe 38", "\U0001d11e", "\xc3", "\xed\xa0\x80",
		everyByte(), everyByte() + everyByte(), strings.Repeat("\xff", 700), strings.Repeat("\x00", 700), strings.Repeat("\n", 60),
	}
	draw := rand.New(rand.NewPCG(7, 1))
	for n := range 40 {
		list = append(list, drawn(draw, n), drawn(draw, draw.IntN(400)))
	}
	return list
}

// numbers returns numbers at the ends of the range of digests, near the multiples of P and the powers of 2, and drawn ones.
func numbers() []uint64 {
	list := []uint64{greatest, greatest - 1}
	for k := range uint64(8) {
		list = append(list, k*p, k*p+1, k*p+2, (k+1)*p-1, (k+1)*p-2)
	}
	for n := range 64 {
		list = append(list, 1<<n, 1<<n-1)
	}
	draw := rand.New(rand.NewPCG(7, 2))
	for range 20 {
		list = append(list, draw.Uint64(), draw.Uint64N(p))
	}
	return list
}

// lengths returns ints of all sizes: negative ones, 0, small ones, and great ones.
func lengths() []int {
	list := []int{math.MinInt, math.MinInt + 1, -1 << 32, -3, -2, -1, 0, 1, 2, 3, 5, 10, 100, 20000, p - 2, p - 1, p, p + 1, math.MaxInt - 1, math.MaxInt}
	draw := rand.New(rand.NewPCG(7, 3))
	for n := range 62 {
		list = append(list, 1<<n+draw.IntN(1<<n))
	}
	return list
}
