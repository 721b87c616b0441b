package draws_test

import (
	"math"
	"slices"
	"testing"

	"garment/api"
	"garment/draws"
)

// shuffleIs fails the test unless Shuffle of d and n returns this state and this order.
func shuffleIs(t *testing.T, d api.Draw, n int, state api.Draw, order ...int) {
	t.Helper()
	if s, list := draws.Shuffle(d, n); s != state || !slices.Equal(list, order) {
		t.Errorf("Shuffle(%d, %d): %d, %v, not %d, %v", d, n, s, list, state, order)
	}
}

// sampleIs fails the test unless Sample of d, n and k returns this state and this list.
func sampleIs(t *testing.T, d api.Draw, n, k int, state api.Draw, want ...int) {
	t.Helper()
	if s, list := draws.Sample(d, n, k); s != state || !slices.Equal(list, want) {
		t.Errorf("Sample(%d, %d, %d): %d, %v, not %d, %v", d, n, k, s, list, state, want)
	}
}

// P5.2: the examples of the chapter. In the first list i differs from j, in the second one it is equal to j.
func TestShuffleExamples(t *testing.T) {
	shuffleIs(t, 1, 2, 7806831264735756412, 1, 0)
	shuffleIs(t, 0, 2, 1442695040888963407, 0, 1)
	for _, d := range states() {
		shuffleIs(t, d, 1, d, 0)
		shuffleIs(t, d, -5, d)
	}
}

// P5.2: orders that were computed elsewhere.
func TestShuffleOrders(t *testing.T) {
	shuffleIs(t, 0, 3, 1876011003808476466, 1, 0, 2)
	shuffleIs(t, 1, 3, 9396908728118811419, 0, 1, 2)
	shuffleIs(t, 2, 3, 16917806452429146372, 2, 0, 1)
	shuffleIs(t, greatest, 3, 12801857353207693129, 0, 2, 1)
	shuffleIs(t, 0, 10, 8905969151499887831, 4, 8, 6, 0, 9, 5, 2, 1, 3, 7)
	shuffleIs(t, 1, 10, 15490212636682683044, 7, 8, 1, 6, 5, 0, 2, 9, 3, 4)
	shuffleIs(t, greatest, 10, 2321725666317092618, 3, 7, 4, 1, 6, 0, 2, 9, 5, 8)
	shuffleIs(t, 123456789, 20, 9742511766108791042, 8, 9, 15, 18, 2, 10, 3, 19, 17, 0, 5, 13, 1, 11, 6, 14, 7, 16, 12, 4)
}

// P5.2: of negative numbers, 0 and 1 there is nothing to draw.
func TestShuffleOfFewNumbers(t *testing.T) {
	for _, d := range states() {
		for _, n := range []int{math.MinInt, math.MinInt + 1, -1 << 32, -1000, -2, -1, 0} {
			shuffleIs(t, d, n, d)
		}
		shuffleIs(t, d, 1, d, 0)
	}
}

// P5.2: no more than MaxCount numbers are shuffled.
func TestShuffleOfManyNumbers(t *testing.T) {
	for _, d := range []api.Draw{0, 1, 5, greatest} {
		state, order := shuffle(d, api.MaxCount)
		for _, n := range []int{api.MaxCount, api.MaxCount + 1, 5000, 1 << 31, 1 << 32, math.MaxInt - 1, math.MaxInt} {
			shuffleIs(t, d, n, state, order...)
		}
	}
	s, list := draws.Shuffle(5, api.MaxCount)
	head, tail := []int{821, 859, 767, 914, 643, 793, 288, 232, 80, 711, 752, 542}, []int{735, 255, 264, 10, 547, 759, 646, 715, 34, 332, 242, 992}
	if s != 14876985744823523862 || len(list) != 1000 || !slices.Equal(list[:12], head) || !slices.Equal(list[988:], tail) {
		t.Errorf("Shuffle(5, 1000): %d, %v", s, list)
	}
}

// P5.2: compared with the standard library; every order has each number once, and n - 1 numbers were drawn for it.
func TestShuffle(t *testing.T) {
	for _, d := range states() {
		for _, n := range []int{0, 1, 2, 3, 4, 5, 6, 7, 8, 16, 33, 100, 999, 1000} {
			state, order := shuffle(d, n)
			shuffleIs(t, d, n, state, order...)
			after := d
			for range n - 1 {
				after, _ = draws.Next(after)
			}
			if state != after {
				t.Errorf("Shuffle(%d, %d): the state %d is not %d", d, n, state, after)
			}
			slices.Sort(order)
			_, list := draws.Shuffle(d, n)
			slices.Sort(list)
			if !slices.Equal(list, order) {
				t.Errorf("Shuffle(%d, %d): has the elements %v", d, n, list)
			}
		}
	}
}

// P5.3: the examples of the chapter.
func TestSampleExamples(t *testing.T) {
	sampleIs(t, 1, 2, 1, 7806831264735756412, 1)
	sampleIs(t, 1, 2, 9, 7806831264735756412, 0, 1)
}

// P5.3: samples that were computed elsewhere.
func TestSampleLists(t *testing.T) {
	sampleIs(t, 0, 10, 1, 8905969151499887831, 4)
	sampleIs(t, 0, 10, 5, 8905969151499887831, 0, 4, 6, 8, 9)
	sampleIs(t, 0, 10, 9, 8905969151499887831, 0, 1, 2, 3, 4, 5, 6, 8, 9)
	sampleIs(t, 1, 10, 3, 15490212636682683044, 1, 7, 8)
	sampleIs(t, greatest, 20, 7, 14815766098102567796, 5, 6, 9, 10, 11, 16, 19)
}

// P5.3: the first k elements of Shuffle in ascending order, and its state, for every n and k within the limits and beyond.
func TestSample(t *testing.T) {
	for _, d := range states() {
		for _, n := range []int{math.MinInt, -5, -1, 0, 1, 2, 3, 10, 57, 999, 1000, 1001, math.MaxInt} {
			state, order := shuffle(d, n)
			for _, k := range []int{math.MinInt, -9, -1, 0, 1, 2, 3, 9, 57, n - 1, n, n + 1, 999, 1000, 1001, math.MaxInt} {
				want := slices.Clone(order[:max(0, min(k, len(order)))])
				slices.Sort(want)
				sampleIs(t, d, n, k, state, want...)
			}
		}
	}
}

// P5.3: of nothing, and of no elements, the sample is empty; all elements are in ascending order.
func TestSampleOfNoneAndAll(t *testing.T) {
	for _, k := range []int{math.MinInt, -1, 0, 1, 3, 1000, math.MaxInt} {
		sampleIs(t, 7, math.MinInt, k, 7)
		sampleIs(t, 7, -1, k, 7)
		sampleIs(t, 7, 0, k, 7)
	}
	for _, k := range []int{math.MinInt, -1, 0} {
		sampleIs(t, 7, 1, k, 7)
		sampleIs(t, 1, 2, k, 7806831264735756412)
	}
	sampleIs(t, 7, 1, 1, 7, 0)
	sampleIs(t, 1, 10, 10, 15490212636682683044, 0, 1, 2, 3, 4, 5, 6, 7, 8, 9)
	sampleIs(t, 1, 10, 11, 15490212636682683044, 0, 1, 2, 3, 4, 5, 6, 7, 8, 9)
}

// R3, R7: a list is new memory in each call, spare capacity included.
func TestListsAreNewMemory(t *testing.T) {
	for range 3 {
		_, order := draws.Shuffle(0, 3)
		_, sample := draws.Sample(0, 10, 5)
		if !slices.Equal(order, []int{1, 0, 2}) || !slices.Equal(sample, []int{0, 4, 6, 8, 9}) {
			t.Errorf("%v, %v", order, sample)
		}
		order, sample = order[:cap(order)], sample[:cap(sample)]
		for i := range order {
			order[i] = 55
		}
		for i := range sample {
			sample[i] = 66
		}
		if slices.Contains(order, 66) {
			t.Error("the lists share memory")
		}
	}
}
