package integer_test

import (
	"testing"

	"garment/api"
)

// R3: no function modifies an argument or the spare capacity of one, also if both arguments are the same.
func TestArgumentsStayAsTheyWere(t *testing.T) {
	for name, call := range calls() {
		pairs(func(a, b api.Int) {
			x, xChanged := guarded(a)
			y, yChanged := guarded(b)
			call(x, y)
			call(x, x)
			if xChanged() || yChanged() {
				t.Errorf("%s modifies %v or %v", name, a, b)
			}
		})
	}
}

// R3: a result shares no memory with an argument or with another result.
func TestResultsAreNewMemory(t *testing.T) {
	for name, call := range calls() {
		pairs(func(a, b api.Int) {
			x, xChanged := guarded(a)
			y, yChanged := guarded(b)
			results := call(x, y)
			for i := range results {
				others := call(x, y)
				scribble(results[i])
				for j := i + 1; j < len(results); j++ {
					same(t, name, results[j], others[j])
				}
			}
			if xChanged() || yChanged() {
				t.Errorf("the result of %s is memory of %v or %v", name, a, b)
			}
		})
	}
}
