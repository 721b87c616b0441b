package codec

import "garment/api"

// Decode returns the tree whose encoding is s.
func Decode(s string) (n api.Node, e api.Errno) {
	if len(s) > api.MaxText {
		return api.Node{}, api.ErrTooLong
	}
	// An error leaves the nested functions of the reader by a panic, which ends here; n is still zero then.
	defer func() {
		if failure := recover(); failure != nil {
			e = failure.(api.Errno)
		}
	}()
	r := reader{rest: s}
	return r.tree(), api.OK
}

// reader reads an encoding from left to right. Its methods panic with an Errno.
type reader struct {
	rest string
}

// tree reads a tree with nothing behind it.
func (r *reader) tree() api.Node {
	n := r.node(1, 0)
	if r.rest != "" {
		panic(api.ErrSyntax)
	}
	return n
}

// node reads a node on this level, the element with this index of its list.
func (r *reader) node(level, index int) api.Node {
	first := r.peek()
	if first != opening && !isDigit(first) {
		panic(api.ErrSyntax)
	}
	if level > api.MaxDepth || index >= api.MaxKids {
		panic(api.ErrTooLong)
	}
	if first == opening {
		return api.Node{List: true, Kids: r.list(level + 1)}
	}
	return api.Node{Text: r.text()}
}

// list reads the elements of a list, which are on this level, with the parentheses.
func (r *reader) list(level int) []api.Node {
	r.skip()
	var kids []api.Node
	for r.peek() != closing {
		kids = append(kids, r.node(level, len(kids)))
	}
	r.skip()
	return kids
}

// text reads a text with the length in front of it.
func (r *reader) text() string {
	length := r.length()
	if len(r.rest) < length {
		panic(api.ErrTruncated)
	}
	text := r.rest[:length]
	r.rest = r.rest[length:]
	return text
}

// length reads the length of a text, with the colon.
func (r *reader) length() int {
	length := 0
	for digits := 0; isDigit(r.peek()); digits++ {
		if digits > 0 && length == 0 {
			panic(api.ErrSyntax)
		}
		length = 10*length + int(r.peek()-'0')
		if length > api.MaxText {
			panic(api.ErrTooLong)
		}
		r.skip()
	}
	if r.peek() != colon {
		panic(api.ErrSyntax)
	}
	r.skip()
	return length
}

// peek returns the next byte.
func (r *reader) peek() byte {
	if r.rest == "" {
		panic(api.ErrTruncated)
	}
	return r.rest[0]
}

// skip passes over the next byte.
func (r *reader) skip() {
	r.rest = r.rest[1:]
}

// isDigit reports whether c is a decimal digit.
func isDigit(c byte) bool {
	return '0' <= c && c <= '9'
}
