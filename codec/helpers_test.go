package codec_test

import (
	"math/rand/v2"
	"slices"
	"strconv"
	"strings"
	"testing"

	"garment/api"
	"garment/codec"
)

// leaf returns a text.
func leaf(text string) api.Node { return api.Node{Text: text} }

// list returns a list.
func list(kids ...api.Node) api.Node { return api.Node{List: true, Kids: kids} }

// below returns n below that many lists.
func below(n api.Node, lists int) api.Node {
	for range lists {
		n = list(n)
	}
	return n
}

// copies returns a list with the same element that many times.
func copies(n api.Node, times int) api.Node {
	whole := list()
	for range times {
		whole.Kids = append(whole.Kids, n)
	}
	return whole
}

// equal reports whether two nodes are the same tree; no Kids may be nil or not.
func equal(a, b api.Node) bool {
	if a.List != b.List || a.Text != b.Text || len(a.Kids) != len(b.Kids) {
		return false
	}
	for i := range a.Kids {
		if !equal(a.Kids[i], b.Kids[i]) {
			return false
		}
	}
	return true
}

// encodes fails the test unless Encode of n returns s.
func encodes(t *testing.T, n api.Node, s string) {
	t.Helper()
	if got, e := codec.Encode(n); got != s || e != api.OK {
		t.Errorf("Encode(%.200v): %.200q, %d, not %.200q", n, got, e, s)
	}
}

// encodeFails fails the test unless Encode of n returns this error.
func encodeFails(t *testing.T, n api.Node, want api.Errno) {
	t.Helper()
	if got, e := codec.Encode(n); got != "" || e != want {
		t.Errorf("Encode(%.200v): %.200q, %d, not %d", n, got, e, want)
	}
}

// decodes fails the test unless Decode of s returns n.
func decodes(t *testing.T, s string, n api.Node) {
	t.Helper()
	if got, e := codec.Decode(s); !equal(got, n) || e != api.OK {
		t.Errorf("Decode(%.200q): %.200v, %d, not %.200v", s, got, e, n)
	}
}

// decodeFails fails the test unless Decode of s returns this error.
func decodeFails(t *testing.T, s string, want api.Errno) {
	t.Helper()
	if got, e := codec.Decode(s); !equal(got, api.Node{}) || e != want {
		t.Errorf("Decode(%.200q): %.200v, %d, not %d", s, got, e, want)
	}
}

// both fails the test unless n and s are encoded and decoded to each other.
func both(t *testing.T, n api.Node, s string) {
	t.Helper()
	encodes(t, n, s)
	decodes(t, s, n)
}

// encoding returns what the chapter says of the encoding of a valid tree.
func encoding(n api.Node) string {
	if !n.List {
		return strconv.Itoa(len(n.Text)) + ":" + n.Text
	}
	parts := make([]string, len(n.Kids))
	for i, kid := range n.Kids {
		parts[i] = encoding(kid)
	}
	return "(" + strings.Join(parts, "") + ")"
}

// decoding returns what the chapter says of Decode, by a loop with a stack of the open lists.
func decoding(s string) (api.Node, api.Errno) {
	if len(s) > 20000 {
		return api.Node{}, api.ErrTooLong
	}
	open := []api.Node{{}} // the first one stands for what is around the tree
	for i := 0; ; {
		top := len(open) - 1
		if top == 0 && len(open[0].Kids) == 1 {
			if i < len(s) {
				return api.Node{}, api.ErrSyntax
			}
			return open[0].Kids[0], api.OK
		}
		if i == len(s) {
			return api.Node{}, api.ErrTruncated
		}
		full := top == 12 || len(open[top].Kids) == 256
		switch {
		case s[i] == ')' && top > 0:
			closed := open[top]
			open = open[:top]
			open[top-1].Kids = append(open[top-1].Kids, closed)
			i++
		case !strings.ContainsRune("(0123456789", rune(s[i])):
			return api.Node{}, api.ErrSyntax
		case full:
			return api.Node{}, api.ErrTooLong
		case s[i] == '(':
			open = append(open, api.Node{List: true})
			i++
		default:
			size, e := measured(s[i:])
			if e != api.OK {
				return api.Node{}, e
			}
			text := s[i+strings.Index(s[i:], ":")+1:]
			if len(text) < size {
				return api.Node{}, api.ErrTruncated
			}
			open[top].Kids = append(open[top].Kids, api.Node{Text: text[:size]})
			i = len(s) - len(text) + size
		}
	}
}

// measured returns the length with which s begins, in front of a colon.
func measured(s string) (int, api.Errno) {
	digits := s[:len(s)-len(strings.TrimLeft(s, "0123456789"))]
	size := 0
	for k := range digits {
		if k > 0 && digits[0] == '0' {
			return 0, api.ErrSyntax
		}
		if size, _ = strconv.Atoi(digits[:k+1]); size > 20000 {
			return 0, api.ErrTooLong
		}
	}
	if digits == s {
		return 0, api.ErrTruncated
	}
	if s[len(digits)] != ':' {
		return 0, api.ErrSyntax
	}
	return size, api.OK
}

// drawn returns a tree of at most that many levels.
func drawn(draw *rand.Rand, levels int) api.Node {
	if levels > 1 && draw.IntN(3) > 0 {
		n := list()
		for range draw.IntN(5) {
			n.Kids = append(n.Kids, drawn(draw, levels-1))
		}
		return n
	}
	text := make([]byte, draw.IntN(13))
	for i := range text {
		text[i] = byte(draw.IntN(256))
		if draw.IntN(2) == 0 {
			text[i] = "()0129:a"[draw.IntN(8)]
		}
	}
	return leaf(string(text))
}

// trees returns drawn trees.
func trees(count int) []api.Node {
	draw := rand.New(rand.NewPCG(6, 1))
	list := make([]api.Node, count)
	for i := range list {
		list[i] = drawn(draw, 1+draw.IntN(6))
	}
	return list
}

// walk calls f with all nodes of n and their paths.
func walk(n api.Node, path []int, f func(path []int, n api.Node)) {
	path = slices.Clip(path) // so that what is appended to it is new memory
	f(path, n)
	for i, kid := range n.Kids {
		walk(kid, append(path, i), f)
	}
}

// spoil overwrites all lists of n, with their spare capacity.
func spoil(n api.Node) {
	for _, kid := range n.Kids {
		spoil(kid)
	}
	kids := n.Kids[:cap(n.Kids)]
	for i := range kids {
		kids[i] = leaf("spoilt")
	}
}
