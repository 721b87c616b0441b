package ratio_test

import (
	"slices"
	"testing"

	"garment/api"
	"garment/ratio"
)

// R3: no function modifies an argument or the spare capacity of one, also if both arguments are the same.
func TestArgumentsStayAsTheyWere(t *testing.T) {
	for name, call := range calls() {
		pairs(func(a, b api.Ratio) {
			x, xChanged := guarded(a)
			y, yChanged := guarded(b)
			call(x, y)
			call(x, x)
			if xChanged() || yChanged() {
				t.Errorf("%s modifies %v or %v", name, a, b)
			}
		})
	}
}

// R3: a result shares no memory with an argument, and its numbers share none with one another.
func TestResultsAreNewMemory(t *testing.T) {
	for name, call := range calls() {
		pairs(func(a, b api.Ratio) {
			x, xChanged := guarded(a)
			y, yChanged := guarded(b)
			checkApart(t, name, call(x, y))
			if xChanged() || yChanged() {
				t.Errorf("the result of %s is memory of %v or %v", name, a, b)
			}
		})
	}
}

// R3: the results of Of and Parse are new memory in each call.
func TestResultsOfOthersAreNewMemory(t *testing.T) {
	for range 2 {
		a, _ := ratio.Of(6, -4)
		same(t, "Of", a, fraction(-3, 2))
		checkApart(t, "Of", numbers(a))
		for _, s := range []string{"0", "3", "-3/2"} {
			b, _ := ratio.Parse(s)
			if back := ratio.Text(b); back != s {
				t.Errorf("Text of Parse(%q): %s", s, back)
			}
			checkApart(t, "Parse", numbers(b))
		}
	}
}

// checkApart overwrites the numbers of a result one by one, and fails the test if another one of them changes with it.
func checkApart(t *testing.T, name string, result []api.Nat) {
	t.Helper()
	for i := range result {
		others := slices.Concat(slices.Concat(result[:i]...), slices.Concat(result[i+1:]...))
		scribble(result[i], uint32(55+i))
		if !slices.Equal(slices.Concat(slices.Concat(result[:i]...), slices.Concat(result[i+1:]...)), others) {
			t.Errorf("the numbers of a result of %s share memory", name)
		}
	}
}
