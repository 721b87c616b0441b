package draws_test

import (
	"math"
	"testing"

	"garment/api"
	"garment/draws"
)

// nextIs fails the test unless Next of d returns this state and this number.
func nextIs(t *testing.T, d, state api.Draw, number int) {
	t.Helper()
	if s, n := draws.Next(d); s != state || n != number {
		t.Errorf("Next(%d): %d, %d, not %d, %d", d, s, n, state, number)
	}
}

// belowIs fails the test unless Below of d and n returns this state and this number.
func belowIs(t *testing.T, d api.Draw, n int, state api.Draw, number int) {
	t.Helper()
	if s, k := draws.Below(d, n); s != state || k != number {
		t.Errorf("Below(%d, %d): %d, %d, not %d, %d", d, n, s, k, state, number)
	}
}

// P5.1: the examples of the chapter.
func TestNextExamples(t *testing.T) {
	nextIs(t, 0, 1442695040888963407, 167951807)
	nextIs(t, 1, 7806831264735756412, 908834774)
	belowIs(t, 0, 10, 1442695040888963407, 7)
	belowIs(t, 0, -3, 1442695040888963407, 0)
}

// P5.1: states that were computed elsewhere, the greatest one among them.
func TestNextStates(t *testing.T) {
	nextIs(t, 2, 14170967488582549417, 1649717740)
	nextIs(t, 1<<32-1, 597015566704837154, 69501759)
	nextIs(t, 1<<32, 6961151790551630159, 810384725)
	nextIs(t, 1<<63, 10666067077743739215, 1241693631)
	nextIs(t, greatest-1, 7161166666904929013, 833669522)
	nextIs(t, greatest, 13525302890751722018, 1574552488)
}

// P5.1: the number is the next state divided by 2^33, from 0 to 2^31 - 1, rounded down.
func TestNextNumbers(t *testing.T) {
	for state, number := range map[api.Draw]int{
		0: 0, 1: 0, 1<<33 - 1: 0, 1 << 33: 1, 1<<33 + 1: 1, 1<<34 - 1: 1, 1 << 34: 2, 1<<63 - 1: 1<<30 - 1, 1 << 63: 1 << 30,
		greatest - 1<<33: 1<<31 - 2, greatest - 1<<33 + 1: 1<<31 - 1, greatest: 1<<31 - 1,
	} {
		nextIs(t, before(state), state, number)
	}
}

// P5.1: compared with the standard library, over many calls.
func TestNext(t *testing.T) {
	for _, d := range states() {
		for range 200 {
			state, number := next(d)
			nextIs(t, d, state, number)
			d = state
		}
	}
}

// P5.1: Below is the number of Next modulo n, 0 if n is below 1, and the state is that of Next in any case.
func TestBelow(t *testing.T) {
	limits := []int{math.MinInt, math.MinInt + 1, -1 << 31, -1000, -10, -3, -2, -1, 0, 1, 2, 3, 7, 10, 16, 999, 1000, 1 << 30, 1<<31 - 1, 1 << 31, 1<<31 + 1, 1 << 33, math.MaxInt - 1, math.MaxInt}
	for _, d := range append(states(), before(0), before(greatest)) {
		state, number := next(d)
		for _, n := range append(limits, number-1, number, number+1) {
			_, want := below(d, n)
			belowIs(t, d, n, state, want)
		}
	}
}

// P5.1: n equal to the number leaves 0, one more leaves the number itself.
func TestBelowNearTheNumber(t *testing.T) {
	belowIs(t, 0, 167951806, 1442695040888963407, 1)
	belowIs(t, 0, 167951807, 1442695040888963407, 0)
	belowIs(t, 0, 167951808, 1442695040888963407, 167951807)
	belowIs(t, before(greatest), 1<<31-1, greatest, 0)
	belowIs(t, before(greatest), 1<<31, greatest, 1<<31-1)
	belowIs(t, before(0), 1, 0, 0)
	belowIs(t, before(0), math.MaxInt, 0, 0)
}
