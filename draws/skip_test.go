package draws_test

import (
	"math"
	"math/big"
	"math/rand/v2"
	"testing"

	"garment/api"
	"garment/draws"
)

// skipIs fails the test unless Skip of d and k returns this state.
func skipIs(t *testing.T, d api.Draw, k int, state api.Draw) {
	t.Helper()
	if s := draws.Skip(d, k); s != state {
		t.Errorf("Skip(%d, %d): %d, not %d", d, k, s, state)
	}
}

// skipped returns what the chapter says of Skip: d * a^k and the sum of all lower powers of a, each times c, where a and c are the numbers of Next.
func skipped(d api.Draw, k int) api.Draw {
	less := big64(6364136223846793005 - 1)
	// The sum is (a^k - 1) / (a - 1), so that a^k is needed modulo (a - 1) * 2^64.
	modulus := new(big.Int).Mul(less, power(64))
	times := new(big.Int).Exp(big64(6364136223846793005), big.NewInt(int64(k)), modulus)
	sum := new(big.Int).Sub(times, big.NewInt(1))
	sum.Quo(sum, less).Mul(sum, big64(1442695040888963407))
	times.Mul(times, big64(d)).Add(times, sum).Mod(times, power(64))
	return api.Draw(times.Uint64())
}

// P5.4: the examples of the chapter, and all that is below 1.
func TestSkipOfNothing(t *testing.T) {
	for _, d := range states() {
		for _, k := range []int{0, -7, -1, -2, -1 << 32, math.MinInt + 1, math.MinInt} {
			skipIs(t, d, k, d)
		}
	}
	skipIs(t, 0, 1, 1442695040888963407)
}

// P5.4: states that were computed elsewhere.
func TestSkipStates(t *testing.T) {
	skipIs(t, 0, 2, 1876011003808476466)
	skipIs(t, 1, 2, 9396908728118811419)
	skipIs(t, greatest, 3, 10372369020401571876)
	skipIs(t, 1, 1000, 17660865281050590889)
	skipIs(t, 0, 1<<31-1, 1901626056097615893)
	skipIs(t, 1, 1<<62, 1<<62+1)
	skipIs(t, 1, math.MaxInt-1, 13462407235634147319)
	skipIs(t, 0, math.MaxInt, 1843579416325869589)
	skipIs(t, greatest, math.MaxInt, 6412499349321099120)
}

// P5.4: Skip is as many calls of Next.
func TestSkipIsCallsOfNext(t *testing.T) {
	for _, d := range states() {
		state := d
		for k := range 2100 {
			skipIs(t, d, k, state)
			state, _ = draws.Next(state)
		}
	}
}

// P5.4: compared with the standard library, for steps of all sizes; a call for each step would not end.
func TestSkip(t *testing.T) {
	list := []int{math.MaxInt, math.MaxInt - 1, math.MaxInt / 2, math.MaxInt/2 + 1}
	draw := rand.New(rand.NewPCG(5, 4))
	for n := range 63 {
		list = append(list, 1<<n, 1<<n+1, max(1, 1<<n-1), 1+draw.IntN(1<<n))
	}
	for _, d := range states() {
		for _, k := range list {
			skipIs(t, d, k, skipped(d, k))
		}
	}
}

// P5.4: to skip twice is to skip the sum, and after 2^64 calls the state is there again.
func TestSkipTwice(t *testing.T) {
	draw := rand.New(rand.NewPCG(5, 5))
	for _, d := range states() {
		a, b := draw.IntN(1<<62), draw.IntN(1<<62)
		skipIs(t, draws.Skip(d, a), b, draws.Skip(d, a+b))
		state := draws.Skip(draws.Skip(d, math.MaxInt), math.MaxInt)
		skipIs(t, state, 2, d)
	}
}
