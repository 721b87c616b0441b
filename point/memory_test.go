package point_test

import (
	"slices"
	"strconv"
	"testing"

	"garment/api"
	"garment/point"
)

// guard is a point whose numbers have spare capacity that is filled with a mark.
type guard struct {
	pt     api.Pt
	memory []api.Nat
	before []api.Nat
}

func guarded(p api.Pt) *guard {
	g := &guard{pt: p}
	for _, number := range []*api.Nat{&g.pt.X.Num.Mag, &g.pt.X.Den, &g.pt.Y.Num.Mag, &g.pt.Y.Den} {
		memory := slices.Concat(*number, api.Nat{77, 77, 77, 77})
		g.memory = append(g.memory, memory)
		g.before = append(g.before, slices.Clone(memory))
		*number = memory[:len(*number)]
	}
	return g
}

// changed reports whether any number of the point or its spare capacity was modified.
func (g *guard) changed() bool {
	return !slices.EqualFunc(g.memory, g.before, slices.Equal)
}

// R3: no function modifies an argument or its spare capacity, also if all arguments are the same; a result shares no memory with an argument, and its numbers share none with one another.
func TestMemory(t *testing.T) {
	for name, call := range calls() {
		quads(func(a, b, c, d api.Pt) {
			list := []*guard{guarded(a), guarded(b), guarded(c), guarded(d)}
			checkApart(t, name, call(list[0].pt, list[1].pt, list[2].pt, list[3].pt))
			checkApart(t, name, call(list[0].pt, list[0].pt, list[0].pt, list[0].pt))
			checkApart(t, name, call(list[0].pt, list[1].pt, list[0].pt, list[3].pt))
			if slices.ContainsFunc(list, (*guard).changed) {
				t.Errorf("%s modifies an argument, or shares its memory: %v %v %v %v", name, a, b, c, d)
			}
		})
	}
}

// R3: On at 0 and at 1, Foot of a point of the line and sums with 0 return copies of their arguments.
func TestResultsThatEqualArguments(t *testing.T) {
	a, b := guarded(at("1/3", "-2")), guarded(at("5", "7/2"))
	for _, at := range []string{"0", "1"} {
		checkApart(t, "On", numbers(point.On(a.pt, b.pt, fraction(at))))
	}
	for _, p := range []api.Pt{a.pt, b.pt} {
		checkApart(t, "Add", numbers(point.Add(p, api.Pt{})))
		checkApart(t, "Add", numbers(point.Add(api.Pt{}, p)))
		checkApart(t, "Sub", numbers(point.Sub(p, api.Pt{})))
		checkApart(t, "Scale", numbers(point.Scale(p, fraction("1"))))
		foot, _ := point.Foot(p, a.pt, b.pt)
		checkApart(t, "Foot", numbers(foot))
		image, _ := point.Mirror(p, a.pt, b.pt)
		checkApart(t, "Mirror", numbers(image))
	}
	if a.changed() || b.changed() {
		t.Error("a result is memory of an argument")
	}
}

// R3: the results of Of are new memory in each call, also if both coordinates are the same.
func TestResultsOfOfAreNewMemory(t *testing.T) {
	for range 2 {
		for _, n := range []int{0, 1, -7} {
			p := point.Of(n, n)
			same(t, "Of", p, at(strconv.Itoa(n), strconv.Itoa(n)))
			checkApart(t, "Of", numbers(p))
		}
	}
}

// checkApart overwrites the numbers of a result and their spare capacity one by one, and fails the test if another one of them changes with it.
func checkApart(t *testing.T, name string, result []api.Nat) {
	t.Helper()
	for i := range result {
		others := slices.Concat(slices.Concat(result[:i]...), slices.Concat(result[i+1:]...))
		spare := result[i][:cap(result[i])]
		for j := range spare {
			spare[j] = uint32(55 + i)
		}
		if !slices.Equal(slices.Concat(slices.Concat(result[:i]...), slices.Concat(result[i+1:]...)), others) {
			t.Errorf("the numbers of a result of %s share memory", name)
		}
	}
}
