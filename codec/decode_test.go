package codec_test

import (
	"strings"
	"testing"

	"garment/api"
	"garment/codec"
)

// P6.1: the examples of the chapter.
func TestDecodeExamples(t *testing.T) {
	decodes(t, "3:a)b", leaf("a)b"))
	decodes(t, "0:", leaf(""))
	decodes(t, "()", list())
	decodes(t, "(2:ab())", list(leaf("ab"), list()))
	decodes(t, "(1:a1:((0:))", list(leaf("a"), leaf("("), list(leaf(""))))
	for _, s := range []string{"(2:a", "", "5:abc"} {
		decodeFails(t, s, api.ErrTruncated)
	}
	for _, s := range []string{"02:ab", ")", "1x:a", "00:", "()()", "1:ab"} {
		decodeFails(t, s, api.ErrSyntax)
	}
	decodeFails(t, "20001:", api.ErrTooLong)
}

// P6.1: every byte may occur in a text, and the bytes of an encoding as well.
func TestDecodeTexts(t *testing.T) {
	var all []byte
	for c := range 256 {
		all = append(all, byte(c))
		both(t, leaf(string([]byte{byte(c)})), "1:"+string([]byte{byte(c)}))
		both(t, list(leaf(string([]byte{byte(c), 'a'})), list()), "(2:"+string([]byte{byte(c), 'a'})+"())")
	}
	both(t, leaf(string(all)), "256:"+string(all))
	both(t, leaf("(2:ab())"), "8:(2:ab())")
	both(t, leaf("2:ab"), "4:2:ab")
	both(t, list(leaf("2:ab"), leaf("()"), leaf("((")), "(4:2:ab2:()2:(()")
	both(t, leaf("12:"), "3:12:")
	both(t, leaf(":"), "1::")
	both(t, leaf("0"), "1:0")
	both(t, leaf("袖\xff"), "4:袖\xff")
}

// P6.1: where a node must begin, s may not end, and there may be a parenthesis or a digit alone; in a list also its end.
func TestDecodeBeginnings(t *testing.T) {
	for c := range 256 {
		s := string([]byte{byte(c)})
		switch {
		case s == "(" || s >= "0" && s <= "9":
			decodeFails(t, s, api.ErrTruncated)
			decodeFails(t, "("+s, api.ErrTruncated)
			decodeFails(t, "(0:"+s, api.ErrTruncated)
		case s == ")":
			decodeFails(t, s, api.ErrSyntax)
			decodes(t, "("+s, list())
			decodes(t, "(0:"+s, list(leaf("")))
		default:
			decodeFails(t, s, api.ErrSyntax)
			decodeFails(t, s+":", api.ErrSyntax)
			decodeFails(t, "("+s, api.ErrSyntax)
			decodeFails(t, "(0:"+s+")", api.ErrSyntax)
			decodeFails(t, "((1:a)"+s+"x)", api.ErrSyntax)
		}
	}
	for _, s := range []string{"-1:a", "+1:a", " 1:a", "a", "ä", "\x00", "١:a", "(1:a 1:b)", "(1:a\n)", "(1:a,1:b)", ")(", "())", "(1:a))"} {
		decodeFails(t, s, api.ErrSyntax)
	}
}

// P6.1: behind the digits of a length there must be a colon.
func TestDecodeBehindDigits(t *testing.T) {
	for _, digits := range []string{"0", "1", "9", "10", "123", "9999", "19999", "20000"} {
		for c := range 256 {
			if c := byte(c); c != ':' && (c < '0' || c > '9') {
				decodeFails(t, digits+string([]byte{c}), api.ErrSyntax)
				decodeFails(t, digits+string([]byte{c})+":a", api.ErrSyntax)
				decodeFails(t, "(1:a"+digits+string([]byte{c}), api.ErrSyntax)
			}
		}
		decodeFails(t, digits, api.ErrTruncated)
		decodeFails(t, "("+digits, api.ErrTruncated)
	}
}

// P6.1: no digit stands behind a first digit 0, whatever would follow.
func TestDecodeLeadingZeros(t *testing.T) {
	for _, s := range []string{"00", "01", "09", "00:", "01:a", "02:ab", "000", "020001", "099999", "010:0123456789", "00x", "01"} {
		decodeFails(t, s, api.ErrSyntax)
		decodeFails(t, "("+s, api.ErrSyntax)
		decodeFails(t, "(0:"+s, api.ErrSyntax)
	}
	decodeFails(t, "0", api.ErrTruncated)
	decodes(t, "(0:10:0123456789)", list(leaf(""), leaf("0123456789")))
}

// P6.1: a length above MaxText is too long from the digit on that makes it so.
func TestDecodeLengths(t *testing.T) {
	for _, s := range []string{"20001", "20001:", "20001x", "20009", "20010", "20100", "21000", "30000", "99999", "99999999", "100000", "200000", "20000000:", "18446744073709551616:", "9223372036854775808", "123456789012345678901234567890", "99999x"} {
		decodeFails(t, s, api.ErrTooLong)
		decodeFails(t, "(0:"+s, api.ErrTooLong)
	}
	for _, s := range []string{"20000", "19999", "2000", "20000:", "19999:", "10000:", "20000:x", "12345:" + strings.Repeat("x", 12344)} {
		decodeFails(t, s, api.ErrTruncated)
		decodeFails(t, "(0:"+s, api.ErrTruncated)
	}
	decodeFails(t, "2000x", api.ErrSyntax)
	decodeFails(t, "20000x", api.ErrSyntax)
	decodeFails(t, "20000:"+strings.Repeat("x", 19994), api.ErrTruncated)
	decodeFails(t, "19995:"+strings.Repeat("x", 19994), api.ErrTruncated)
	decodes(t, "19994:"+strings.Repeat("x", 19994), leaf(strings.Repeat("x", 19994)))
}

// P6.1: a text of fewer bytes than its length is truncated; the bytes of other nodes count as its own.
func TestDecodeShortTexts(t *testing.T) {
	for _, s := range []string{"1:", "2:a", "5:abc", "(1:", "(2:a", "(3:a)", "(4:a)", "(2:ab3:)", "10:012345678"} {
		decodeFails(t, s, api.ErrTruncated)
	}
	decodes(t, "(3:a()2:))1:a)", list(leaf("a()"), leaf("))"), leaf("a")))
}

// P6.1: a string of more than MaxText bytes is too long, whatever is in it.
func TestDecodeLongStrings(t *testing.T) {
	x := strings.Repeat("x", 30000)
	for _, s := range []string{"19995:" + x[:19995], "(19993:" + x[:19993] + ")", "19994:" + x[:19994] + "y", "02:ab" + x, x[:20001], "20001:" + x, "5:" + x, strings.Repeat(" ", 20001), strings.Repeat(")", 1<<20)} {
		decodeFails(t, s, api.ErrTooLong)
	}
	decodeFails(t, x[:20000], api.ErrSyntax)
	decodeFails(t, "19993:"+x[:19993]+"y", api.ErrSyntax)
	decodeFails(t, strings.Repeat(")", 20000), api.ErrSyntax)
}

// P6.1: a node on level 12 is read, a node on level 13 is too long; what is no node there is an error of its own.
func TestDecodeLevels(t *testing.T) {
	open := strings.Repeat("(", 12)
	decodes(t, open[:11]+"1:t"+strings.Repeat(")", 11), below(leaf("t"), 11))
	decodes(t, open+strings.Repeat(")", 12), below(list(), 11))
	for _, s := range []string{"(", "0", "9", "00", "20001", "1:t", "0:" + strings.Repeat(")", 12), "((((", strings.Repeat("(", 19988)} {
		decodeFails(t, open+s, api.ErrTooLong)
		decodeFails(t, open[:1]+"0:()"+open[1:]+s, api.ErrTooLong)
	}
	decodeFails(t, open, api.ErrTruncated)
	decodeFails(t, open+")", api.ErrTruncated)
	decodeFails(t, open+"x", api.ErrSyntax)
	decodeFails(t, open+":", api.ErrSyntax)
	decodeFails(t, open[:11]+"0:x", api.ErrSyntax)
	decodeFails(t, open+strings.Repeat(")", 13), api.ErrSyntax)
	decodeFails(t, open+")()"+strings.Repeat(")", 11)+"0:", api.ErrSyntax)
	decodes(t, open+")()"+strings.Repeat(")", 11), below(list(list(), list()), 10))
}

// P6.1: a list has at most MaxKids elements; what is no element behind them is an error of its own.
func TestDecodeKids(t *testing.T) {
	for _, kid := range []string{"0:", "()", "1:a", "(0:)"} {
		whole := "(" + strings.Repeat(kid, 256)
		n, _ := decoding(kid)
		decodes(t, whole+")", copies(n, 256))
		decodes(t, "(0:"+whole+"))", list(leaf(""), copies(n, 256)))
		for _, s := range []string{"(", "0", "00", "20001", "0:)", "())", "1x"} {
			decodeFails(t, whole+s, api.ErrTooLong)
			decodeFails(t, "("+whole+s, api.ErrTooLong)
		}
		decodeFails(t, whole, api.ErrTruncated)
		decodeFails(t, whole+"x", api.ErrSyntax)
		decodeFails(t, whole+":", api.ErrSyntax)
		decodeFails(t, whole+")0:", api.ErrSyntax)
		decodes(t, "("+whole+")"+whole+"))", list(copies(n, 256), copies(n, 256)))
	}
}

// P6.1: of several errors the leftmost one counts.
func TestDecodeFirstError(t *testing.T) {
	for s, e := range map[string]api.Errno{
		"(02:ab20001:": api.ErrSyntax, "(20001:x": api.ErrTooLong, "(x20001:": api.ErrSyntax, "(9:x))(": api.ErrTruncated, "(1x20001": api.ErrSyntax,
		"1:a20001:": api.ErrSyntax, "()02:": api.ErrSyntax, "(()x": api.ErrSyntax, "(()": api.ErrTruncated, "200010x": api.ErrTooLong,
	} {
		decodeFails(t, s, e)
	}
}

// P6.1, P6.2: compared with a decoder of another kind on all short strings of the bytes that matter; what is decoded is encoded as it was.
func TestDecodeShortStrings(t *testing.T) {
	const letters = "()0127:x"
	counts := map[api.Errno]int{}
	level := []string{""}
	for range 7 {
		for _, s := range level {
			want, e := decoding(s)
			n, got := codec.Decode(s)
			if got != e || !equal(n, want) {
				t.Errorf("Decode(%q): %v, %d, not %v, %d", s, n, got, want, e)
			}
			counts[e]++
			if e == api.OK {
				encodes(t, n, s)
			}
		}
		next := make([]string, 0, len(level)*len(letters))
		for _, s := range level {
			for i := range letters {
				next = append(next, s+letters[i:i+1])
			}
		}
		level = next
	}
	if counts[api.OK] < 100 || counts[api.ErrSyntax] < 1000 || counts[api.ErrTruncated] < 1000 || counts[api.ErrTooLong] < 10 {
		t.Errorf("cases: %v", counts)
	}
}

// P6.1, P6.2: compared with a decoder of another kind on encodings in which a byte is changed, left out or added.
func TestDecodeChangedEncodings(t *testing.T) {
	for _, n := range trees(300) {
		s := encoding(n)
		for i := range s {
			for _, c := range []string{"", "(", ")", "0", "9", ":", "x", "()", "1:a"} {
				for _, changed := range []string{s[:i] + c + s[i:], s[:i] + c + s[i+1:]} {
					want, e := decoding(changed)
					if got, f := codec.Decode(changed); f != e || !equal(got, want) {
						t.Errorf("Decode(%q): %v, %d, not %v, %d", changed, got, f, want, e)
					} else if e == api.OK {
						encodes(t, got, changed)
					}
				}
			}
		}
	}
}

// P6.2: what was encoded is decoded to the same tree.
func TestRoundTrip(t *testing.T) {
	for _, n := range trees(3000) {
		both(t, n, encoding(n))
	}
}

// P6.3: every proper prefix of an encoding is truncated, and an encoding with bytes behind it is none.
func TestPrefixes(t *testing.T) {
	for _, n := range append(trees(300), copies(leaf("0"), 256), below(leaf("("), 11), leaf(strings.Repeat("1:", 60))) {
		s, e := codec.Encode(n)
		if e != api.OK {
			t.Errorf("Encode(%v): %d", n, e)
		}
		for i := range s {
			decodeFails(t, s[:i], api.ErrTruncated)
		}
		for _, more := range []string{"(", ")", "0", ":", "x", "\n", "\x00", "0:", "()", s} {
			decodeFails(t, s+more, api.ErrSyntax)
		}
	}
	s := "19994:" + strings.Repeat("x", 19994)
	for _, i := range []int{0, 1, 5, 6, 7, 1000, 19999} {
		decodeFails(t, s[:i], api.ErrTruncated)
	}
	decodeFails(t, s+"x", api.ErrTooLong)
	decodeFails(t, "19993:"+s[6:19999]+"x", api.ErrSyntax)
}

// P6.3: the encodings of two different trees are different, and neither is the beginning of the other one.
func TestDifferentTrees(t *testing.T) {
	list := trees(400)
	for i, a := range list {
		for _, b := range list[:i] {
			s, _ := codec.Encode(a)
			u, _ := codec.Encode(b)
			if !equal(a, b) && (strings.HasPrefix(s, u) || strings.HasPrefix(u, s)) {
				t.Errorf("Encode(%v): %q, Encode(%v): %q", a, s, b, u)
			}
		}
	}
}

// R3: the lists of a result share no memory, spare capacity included, and no call changes the result of another one.
func TestDecodeMemory(t *testing.T) {
	const s = "((1:a1:b1:c)(1:d)()(()(1:e))1:f)"
	want, _ := decoding(s)
	for range 3 {
		n, _ := codec.Decode(s)
		again, _ := codec.Decode(s)
		spoil(again)
		if !equal(n, want) {
			t.Errorf("Decode(%q): %v", s, n)
		}
		for i := range n.Kids {
			n, _ := codec.Decode(s)
			spoil(n.Kids[i])
			for j := range n.Kids {
				if i != j && !equal(n.Kids[j], want.Kids[j]) {
					t.Errorf("elements %d and %d share memory: %v", i, j, n)
				}
			}
		}
	}
}
