package codec_test

import (
	"strings"
	"testing"

	"garment/api"
	"garment/codec"
)

// P6.1: the examples of the chapter.
func TestEncodeExamples(t *testing.T) {
	encodes(t, list(leaf("ab"), list()), "(2:ab())")
	encodes(t, leaf(""), "0:")
	encodes(t, list(), "()")
	encodes(t, list(leaf("a"), leaf("("), list(leaf(""))), "(1:a1:((0:))")
	encodes(t, below(leaf("t"), 11), "(((((((((((1:t)))))))))))")
	encodeFails(t, below(leaf("t"), 12), api.ErrTooLong)
}

// P6.1: the empty slice of elements may be nil or not.
func TestEncodeEmptyKids(t *testing.T) {
	for _, kids := range [][]api.Node{nil, {}, make([]api.Node, 0, 3)} {
		encodes(t, api.Node{List: true, Kids: kids}, "()")
		encodes(t, api.Node{Text: "a", Kids: kids}, "1:a")
	}
}

// P6.1: the length is in bytes, in decimal without leading zeros.
func TestEncodeLengths(t *testing.T) {
	for size, prefix := range map[int]string{0: "0:", 1: "1:", 9: "9:", 10: "10:", 11: "11:", 99: "99:", 100: "100:", 101: "101:", 999: "999:", 1000: "1000:", 9999: "9999:", 10000: "10000:", 19994: "19994:"} {
		text := strings.Repeat("x", size)
		encodes(t, leaf(text), prefix+text)
	}
	encodes(t, leaf("Ärmel"), "6:Ärmel")
	encodes(t, leaf("袖"), "3:袖")
	encodes(t, leaf("\xff\xc3"), "2:\xff\xc3")
}

// P6.1: a list that has a Text, and a text that has Kids, are invalid, however little the Text or the Kids are.
func TestEncodeInvalidNodes(t *testing.T) {
	for _, n := range []api.Node{
		{List: true, Text: "x"}, {List: true, Text: "\x00"}, {List: true, Text: "x", Kids: []api.Node{{}}},
		{Kids: []api.Node{{}}}, {Text: "x", Kids: []api.Node{{}}}, {Kids: []api.Node{{List: true}, {}}}, {Kids: []api.Node{{List: true, Text: "x"}}},
	} {
		encodeFails(t, n, api.ErrInvalid)
		encodeFails(t, list(n), api.ErrInvalid)
		encodeFails(t, list(leaf("a"), list(), n), api.ErrInvalid)
		encodeFails(t, list(list(n), leaf("a")), api.ErrInvalid)
		encodeFails(t, below(n, 11), api.ErrInvalid)
	}
}

// P6.1: nodes on level 12 are encoded, nodes on level 13 are not.
func TestEncodeLevels(t *testing.T) {
	for lists := range 12 {
		both(t, below(leaf("t"), lists), strings.Repeat("(", lists)+"1:t"+strings.Repeat(")", lists))
		both(t, below(list(), lists), strings.Repeat("(", lists)+"()"+strings.Repeat(")", lists))
	}
	for lists := 12; lists < 20; lists++ {
		encodeFails(t, below(leaf(""), lists), api.ErrTooLong)
		encodeFails(t, below(list(), lists), api.ErrTooLong)
	}
	encodeFails(t, below(leaf(""), 1<<16-1), api.ErrTooLong)
	encodeFails(t, list(leaf("a"), list(), below(list(), 11)), api.ErrTooLong)
}

// P6.1: MaxKids elements are encoded, one more is not.
func TestEncodeKids(t *testing.T) {
	for _, kid := range []api.Node{leaf(""), leaf("ab"), list(), list(leaf("a"))} {
		both(t, copies(kid, 255), "("+strings.Repeat(encoding(kid), 255)+")")
		both(t, copies(kid, 256), "("+strings.Repeat(encoding(kid), 256)+")")
		encodeFails(t, copies(kid, 257), api.ErrTooLong)
		encodeFails(t, below(copies(kid, 257), 10), api.ErrTooLong)
		encodeFails(t, copies(kid, 5000), api.ErrTooLong)
	}
}

// P6.1: an encoding of MaxText bytes is returned, a longer one is not.
func TestEncodeSize(t *testing.T) {
	x := strings.Repeat("x", 40000)
	both(t, leaf(x[:19994]), "19994:"+x[:19994])
	both(t, list(leaf(x[:19992])), "(19992:"+x[:19992]+")")
	both(t, list(leaf(x[:19990]), leaf("")), "(19990:"+x[:19990]+"0:)")
	both(t, list(leaf(x[:9994]), leaf(x[:9994])), "(9994:"+x[:9994]+"9994:"+x[:9994]+")")
	encodeFails(t, leaf(x[:19995]), api.ErrTooLong)
	encodeFails(t, leaf(x[:20000]), api.ErrTooLong)
	encodeFails(t, leaf(x), api.ErrTooLong)
	encodeFails(t, list(leaf(x[:19993])), api.ErrTooLong)
	encodeFails(t, list(leaf(x[:9995]), leaf(x[:9994])), api.ErrTooLong)
	encodeFails(t, list(leaf(x), leaf("a")), api.ErrTooLong)

	lists := copies(copies(leaf(""), 75), 131)    // 2 + 131 * 152 = 19914 bytes
	lists.Kids = append(lists.Kids, leaf(x[:83])) // and 86 bytes
	both(t, lists, encoding(lists))
	lists.Kids[131] = leaf(x[:84])
	encodeFails(t, lists, api.ErrTooLong)
}

// P6.1: at one node ErrInvalid comes first, even if the node is too deep or has too many elements.
func TestEncodeTwoErrorsAtANode(t *testing.T) {
	wide := copies(leaf(""), 257)
	encodeFails(t, api.Node{Kids: wide.Kids}, api.ErrInvalid)
	encodeFails(t, api.Node{List: true, Text: "x", Kids: wide.Kids}, api.ErrInvalid)
	encodeFails(t, below(api.Node{List: true, Text: "x"}, 12), api.ErrInvalid)
	encodeFails(t, below(api.Node{Kids: []api.Node{{}}}, 12), api.ErrInvalid)
	encodeFails(t, below(api.Node{Kids: wide.Kids}, 12), api.ErrInvalid)
	encodeFails(t, below(wide, 12), api.ErrTooLong)
	encodeFails(t, api.Node{List: true, Text: strings.Repeat("x", 20001)}, api.ErrInvalid)
}

// P6.1: of the errors at two nodes, that of the node which comes first counts: a list ahead of its elements, and these in order.
func TestEncodeErrorsAtTwoNodes(t *testing.T) {
	invalid, wide, deep := api.Node{List: true, Text: "x"}, copies(leaf(""), 257), below(leaf(""), 11)
	encodeFails(t, list(invalid, wide), api.ErrInvalid)
	encodeFails(t, list(wide, invalid), api.ErrTooLong)
	encodeFails(t, list(invalid, deep), api.ErrInvalid)
	encodeFails(t, list(deep, invalid), api.ErrTooLong)
	encodeFails(t, list(leaf("a"), list(leaf("b"), deep.Kids[0]), invalid), api.ErrTooLong)
	encodeFails(t, list(list(list(invalid)), wide), api.ErrInvalid)
	encodeFails(t, list(list(list(wide)), invalid), api.ErrTooLong)
	encodeFails(t, copies(invalid, 257), api.ErrTooLong)
	encodeFails(t, api.Node{List: true, Text: "x", Kids: []api.Node{deep}}, api.ErrInvalid)
	encodeFails(t, api.Node{List: true, Text: "x", Kids: []api.Node{wide}}, api.ErrInvalid)
	encodeFails(t, below(list(invalid), 11), api.ErrInvalid)
	encodeFails(t, below(list(list(invalid)), 11), api.ErrTooLong)
}

// P6.1: the size of the whole tree comes last.
func TestEncodeSizeComesLast(t *testing.T) {
	long, invalid := leaf(strings.Repeat("x", 20001)), api.Node{List: true, Text: "x"}
	encodeFails(t, list(long, invalid), api.ErrInvalid)
	encodeFails(t, list(long, list(long, list(invalid))), api.ErrInvalid)
	encodeFails(t, list(copies(copies(list(), 250), 250), invalid), api.ErrInvalid)
	encodeFails(t, list(copies(copies(list(), 250), 250), leaf("")), api.ErrTooLong)
}

// P6.1: compared with the encoding as the chapter defines it.
func TestEncode(t *testing.T) {
	for _, n := range trees(3000) {
		encodes(t, n, encoding(n))
	}
}

// P6.4: the encoding of a list is the concatenation of the encodings of its elements, in parentheses.
func TestEncodeLists(t *testing.T) {
	for _, n := range trees(2000) {
		whole := "("
		for _, kid := range n.Kids {
			s, e := codec.Encode(kid)
			if e != api.OK {
				t.Errorf("Encode(%v): %d", kid, e)
			}
			whole += s
		}
		if n.List {
			encodes(t, n, whole+")")
		}
	}
	x := leaf(strings.Repeat("x", 10000)) // one of them can be encoded, two cannot
	both(t, list(x), "(10000:"+x.Text+")")
	encodeFails(t, list(x, x), api.ErrTooLong)
}

// R3: Encode does not change its argument, nor what is behind its elements.
func TestEncodeLeavesItsArgument(t *testing.T) {
	mark := leaf("mark")
	kids := []api.Node{leaf("a"), list(leaf("b")), mark, mark}
	encodes(t, list(kids[:2]...), "(1:a(1:b))")
	encodes(t, api.Node{List: true, Kids: kids[:0]}, "()")
	if !equal(list(kids...), list(leaf("a"), list(leaf("b")), mark, mark)) {
		t.Errorf("changed: %v", kids)
	}
}
