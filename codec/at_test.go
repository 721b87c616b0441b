package codec_test

import (
	"math"
	"slices"
	"strings"
	"testing"

	"garment/api"
	"garment/codec"
)

// leads fails the test unless At of n and the path returns want.
func leads(t *testing.T, n api.Node, path []int, want api.Node) {
	t.Helper()
	if got, e := codec.At(n, path); !equal(got, want) || e != api.OK {
		t.Errorf("At(%v, %v): %v, %d, not %v", n, path, got, e, want)
	}
}

// missing fails the test unless At of n and the path returns ErrNotFound.
func missing(t *testing.T, n api.Node, path ...int) {
	t.Helper()
	if got, e := codec.At(n, path); !equal(got, api.Node{}) || e != api.ErrNotFound {
		t.Errorf("At(%v, %v): %v, %d", n, path, got, e)
	}
}

// P6.1: the examples of the chapter.
func TestAtExamples(t *testing.T) {
	n, e := codec.Decode("((1:a)1:b)")
	if e != api.OK {
		t.Fatalf("Decode: %d", e)
	}
	leads(t, n, []int{0, 0}, leaf("a"))
	missing(t, n, 1, 0)
	missing(t, n, -1)
}

// P6.1: the empty path leads to the node itself, of whatever kind.
func TestAtEmptyPath(t *testing.T) {
	for _, n := range append(trees(100), leaf(""), list(), api.Node{List: true, Text: "x"}, api.Node{Kids: []api.Node{{}}}) {
		leads(t, n, nil, n)
		leads(t, n, []int{}, n)
	}
}

// P6.1: every index from 0 on, below the number of elements, leads to an element, every other index does not.
func TestAtIndices(t *testing.T) {
	n := list(leaf("a"), list(leaf("b"), leaf("c")), leaf("d"))
	leads(t, n, []int{0}, leaf("a"))
	leads(t, n, []int{1}, list(leaf("b"), leaf("c")))
	leads(t, n, []int{2}, leaf("d"))
	leads(t, n, []int{1, 1}, leaf("c"))
	for _, index := range []int{math.MinInt, -1 << 32, -3, -2, -1, 3, 4, 255, 256, 257, 1 << 32, math.MaxInt} {
		missing(t, n, index)
		missing(t, n, index, 0)
		missing(t, n, 1, index)
		missing(t, n, 1, index, 0)
		missing(t, list(), index)
	}
	missing(t, n, 1, 2)
	missing(t, list(), 0)
}

// P6.1: a text has no elements, even if it has Kids.
func TestAtBelowTexts(t *testing.T) {
	odd := api.Node{Text: "x", Kids: []api.Node{leaf("a")}}
	for _, n := range []api.Node{{}, leaf("a"), leaf("((1:a)1:b)"), odd} {
		for _, index := range []int{-1, 0, 1} {
			missing(t, n, index)
			missing(t, list(n), 0, index)
			missing(t, list(n), 0, 0, index)
		}
	}
	leads(t, list(odd), []int{0}, odd)
}

// P6.1: trees that are not valid are walked as others are, and the node is returned as it is.
func TestAtInvalidTrees(t *testing.T) {
	inner := api.Node{List: true, Text: "x", Kids: []api.Node{leaf("a"), {Text: "y", Kids: []api.Node{leaf("b"), list(leaf("c"))}}}}
	n := list(leaf(strings.Repeat("x", 30000)), inner)
	leads(t, n, []int{1}, inner)
	leads(t, n, []int{1, 0}, leaf("a"))
	leads(t, n, []int{1, 1}, inner.Kids[1])
	leads(t, n, []int{0}, n.Kids[0])
	missing(t, n, 1, 1, 0)
	missing(t, n, 1, 2)

	wide := copies(leaf("a"), 1000)
	wide.Kids[999] = leaf("b")
	leads(t, wide, []int{999}, leaf("b"))
	leads(t, list(wide), []int{0}, wide)
	missing(t, wide, 1000)

	path := make([]int, 1<<16-1)
	deep := below(leaf("t"), len(path))
	leads(t, deep, path, leaf("t"))
	leads(t, deep, path[:20], below(leaf("t"), len(path)-20))
	leads(t, deep, nil, deep)
	missing(t, deep, append(path, 0)...)
}

// P6.1, P6.5: every node of a tree is found at its path, and its encoding occurs in that of the tree.
func TestAt(t *testing.T) {
	for _, n := range trees(500) {
		whole, _ := codec.Encode(n)
		walk(n, nil, func(path []int, want api.Node) {
			leads(t, n, path, want)
			missing(t, n, append(path, len(want.Kids))...)
			missing(t, n, append(path, -1)...)
			part, e := codec.Encode(want)
			if e != api.OK || !strings.Contains(whole, part) {
				t.Errorf("Encode(%v): %q, %d, is not in %q", want, part, e, whole)
			}
		})
	}
}

// P6.5: two paths one after the other lead where the second one leads from the end of the first one.
func TestAtTwoPaths(t *testing.T) {
	odd := list(api.Node{List: true, Text: "x", Kids: []api.Node{list(leaf("a"), leaf("b"))}}, leaf("c"))
	for _, n := range append(trees(200), odd) {
		walk(n, nil, func(path []int, _ api.Node) {
			for _, path := range [][]int{path, append(path, 0), append(path, -1, 0), append(path, 0, 2, 1)} {
				twoPaths(t, n, path)
			}
		})
	}
}

// twoPaths compares At of n and the path with At of its two parts, wherever it is divided.
func twoPaths(t *testing.T, n api.Node, path []int) {
	t.Helper()
	want, e := codec.At(n, path)
	for i := range len(path) + 1 {
		got, f := codec.At(n, path[:i])
		if f == api.OK {
			got, f = codec.At(got, path[i:])
		}
		if f != e || !equal(got, want) {
			t.Errorf("At(%v, %v), then %v: %v, %d, not %v, %d", n, path[:i], path[i:], got, f, want, e)
		}
	}
}

// R3: the result shares no memory with the tree, and the lists of the result share none.
func TestAtMemory(t *testing.T) {
	shared := []api.Node{leaf("b"), list(leaf("c")), leaf("behind"), leaf("behind")}
	build := func() api.Node {
		return list(leaf("a"), api.Node{List: true, Kids: shared[:2]}, api.Node{Text: "x", Kids: shared[:1]}, list(list(leaf("d"))))
	}
	tree, want := build(), build()
	for _, path := range [][]int{nil, {1}, {2}, {3}, {3, 0}} {
		n, _ := codec.At(tree, path)
		spoil(n)
		if !equal(tree, want) || !equal(list(shared...), list(leaf("b"), list(leaf("c")), leaf("behind"), leaf("behind"))) {
			t.Errorf("At(.., %v) shares memory with the tree: %v", path, tree)
		}
	}
	n, _ := codec.At(tree, nil)
	spoil(n.Kids[1])
	if !equal(n.Kids[2], want.Kids[2]) {
		t.Errorf("two lists of a result share memory: %v", n)
	}
}

// R3: the path is left as it is, with what is behind it.
func TestAtLeavesThePath(t *testing.T) {
	path := []int{1, 0, 7, 7}
	leads(t, list(leaf("a"), list(leaf("b"))), path[:2], leaf("b"))
	missing(t, list(leaf("a"), list(leaf("b"))), path[:3]...)
	if !slices.Equal(path, []int{1, 0, 7, 7}) {
		t.Errorf("changed: %v", path)
	}
}
