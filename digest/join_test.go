package digest_test

import (
	"math"
	"testing"
)

// P7.2: the example of the chapter.
func TestJoinExample(t *testing.T) {
	joinIs(t, 1, 1, 0, 1099511628211)
}

// P7.2: digests that were computed elsewhere.
func TestJoinNumbers(t *testing.T) {
	joinIs(t, 98, 1, 99, 107752139564777)
	joinIs(t, 1, 2, 0, 956575116878633)
	joinIs(t, 1, 3, 0, 1200626016367673003)
	joinIs(t, 1, 40, 0, 660821224072611875)
	joinIs(t, 7, 1000000, 8, 163663334385593839)
	joinIs(t, p-1, 1, p-1, 2305841909702065739)
	joinIs(t, p-1, 2, 1, 2304886434096815319)
	joinIs(t, 1<<63, 62, 1<<61, 1227047779596770544)
	joinIs(t, 2*p, 3, 2*p+7, 7)
	joinIs(t, greatest, 1, greatest, 7696581397484)
}

// P7.2: a negative n counts as 0, and B^0 is 1.
func TestJoinOfNothing(t *testing.T) {
	for _, n := range []int{math.MinInt, math.MinInt + 1, -1 << 32, -1000, -2, -1, 0} {
		joinIs(t, 0, n, 0, 0)
		joinIs(t, 5, n, 7, 12)
		joinIs(t, 5, n, p-1, 4)
		joinIs(t, 5, n, p-5, 0)
		joinIs(t, p-1, n, p-1, p-2)
		joinIs(t, 5, n, p, 5)
		joinIs(t, greatest, n, greatest, 14)
	}
}

// P7.2: great n, for which a step for each factor would not end.
func TestJoinOfGreatLengths(t *testing.T) {
	joinIs(t, 1, 1<<31, 0, 1956538087696918832)
	joinIs(t, 1, 1<<32, 0, 1292101487767684598)
	joinIs(t, 1, p-1, 0, 1)
	joinIs(t, 1, p, 0, 1099511628211)
	joinIs(t, 1, 1<<62, 0, 2304344181287796448)
	joinIs(t, 1, math.MaxInt, 0, 83616483255987006)
	joinIs(t, p-1, math.MaxInt, 0, 2222226525957706945)
	joinIs(t, greatest, math.MaxInt, greatest, 585315382791909049)
}

// P7.2: every number of the range from P on is joined as its remainder modulo P.
func TestJoinOfNumbersFromP(t *testing.T) {
	for _, n := range lengths() {
		for k := range uint64(8) {
			joinIs(t, k*p, n, k*p, 0)
			joinIs(t, k*p, n, k*p+3, 3)
			joinIs(t, k*p+5, n, 9, join(5, n, 9))
			joinIs(t, 5, n, k*p+9, join(5, n, 9))
		}
	}
	joinIs(t, p, 5, p, 0)
	joinIs(t, p+1, 1, p+1, 1099511628212)
}

// P7.2: compared with the standard library, for numbers and lengths of all sizes.
func TestJoin(t *testing.T) {
	list := numbers()
	for _, n := range lengths() {
		for i, a := range list {
			b := list[(i*29+7)%len(list)]
			joinIs(t, a, n, b, join(a, n, b))
			joinIs(t, a, n, a, join(a, n, a))
		}
	}
}
