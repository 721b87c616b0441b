package measure_test

import (
	"math/big"
	"math/rand/v2"
	"regexp"
	"slices"
	"strings"
	"testing"

	"garment/api"
	"garment/measure"
)

// P4.1: the examples of the chapter.
func TestParseExamples(t *testing.T) {
	for s, want := range map[string]string{
		"1 1/2in": "3810", "-2.5cm": "-2500", "-0mm": "0", "3/4in": "1905", "0.0001mm": "1/100", "1 0/5m": "100000",
	} {
		same(t, "Parse "+s, parsed(t, s), length(want))
	}
	for _, s := range []string{"05mm", "1.mm", "1/0mm", "1 mm", "5"} {
		fails(t, s, api.ErrSyntax)
	}
}

// P4.1: every kind of value with every unit and both signs.
func TestParseKindsAndUnits(t *testing.T) {
	for text, v := range map[string]string{
		"0": "0", "1": "1", "7": "7", "10": "10", "305": "305", "1234567": "1234567", "9999999": "9999999",
		"0.0": "0", "0.0000": "0", "0.5": "1/2", "2.5": "5/2", "1.0": "1", "1.50": "3/2", "10.01": "1001/100", "0.001": "1/1000", "3.0405": "30405/10000", "9999999.9999": "99999999999/10000",
		"0/1": "0", "0/999": "0", "1/2": "1/2", "3/1": "3", "7/3": "7/3", "6/4": "3/2", "5/10": "1/2", "1/999": "1/999", "998/999": "998/999", "9999999/999": "9999999/999",
		"0 0/1": "0", "0 1/2": "1/2", "1 1/2": "3/2", "1 0/5": "1", "2 7/3": "13/3", "1 6/4": "5/2", "10 10/100": "101/10", "9999999 9999999/999": "9999999000/999", "5 3/1": "8",
	} {
		for unit, size := range map[string]string{"mm": "100", "cm": "1000", "m": "100000", "in": "2540"} {
			want := new(big.Rat).Mul(number(v), number(size))
			same(t, "Parse "+text+unit, parsed(t, text+unit), normal(want))
			same(t, "Parse -"+text+unit, parsed(t, "-"+text+unit), normal(want.Neg(want)))
		}
	}
}

// P4.1: whole numbers have 1 to 7 digits, and no leading zero but for 0 itself, wherever they stand.
func TestParseWholeNumbers(t *testing.T) {
	places := []string{"#mm", "-#cm", "#.5m", "#/7in", "# 1/2mm", "1 #/2mm", "-0 #/9m"}
	for _, place := range places {
		for _, n := range []string{"0", "1", "9", "10", "1000000", "9999999"} {
			parsed(t, strings.Replace(place, "#", n, 1))
		}
		for _, n := range []string{"", "-", "+1", "00", "01", "007", "0000000", "0123456", "10000000", "12345678", "123456789", "a", "1a2", "1_0", "1,0", "0x1", "1e3", "\u0663", "\uff11", "\xff", "1\x00"} {
			fails(t, strings.Replace(place, "#", n, 1), api.ErrSyntax)
		}
	}
}

// P4.1: denominators are whole numbers from 1 to 999.
func TestParseDenominators(t *testing.T) {
	for _, place := range []string{"1/#mm", "-0/#in", "7 3/#cm"} {
		for _, n := range []string{"1", "2", "9", "10", "100", "998", "999"} {
			parsed(t, strings.Replace(place, "#", n, 1))
		}
		for _, n := range []string{"", "0", "00", "01", "099", "0999", "1000", "1001", "9999999", "10000000", "99999999", "-1", "+1", " 1", "1 ", "1.0", "1/1", "x", "\u0663"} {
			fails(t, strings.Replace(place, "#", n, 1), api.ErrSyntax)
		}
	}
}

// P4.1: 1 to 4 digits stand behind the point; zeros are digits too.
func TestParseDigitsBehindThePoint(t *testing.T) {
	for _, digits := range []string{"0", "5", "00", "05", "50", "000", "999", "0000", "0001", "9999", "1000"} {
		v := new(big.Rat).Mul(number("12."+digits), number("100"))
		same(t, "Parse of "+digits+" digits", parsed(t, "12."+digits+"mm"), normal(v))
	}
	for _, digits := range []string{"", "00000", "12345", "99999", "123456", "-1", "+1", " 1", "1 ", "1.2", ".1", "a", "1a", "\u0663", "\xff", "\u00b2"} {
		fails(t, "12."+digits+"mm", api.ErrSyntax)
		fails(t, "-0."+digits+"in", api.ErrSyntax)
	}
}

// P4.1: what is no measure.
func TestParseSyntax(t *testing.T) {
	for _, s := range []string{
		"", "-", "mm", "-mm", "in", "m", ".", "/", " ", "1", "0", "1.5", "1/2", "1 1/2", ".5mm", "-.5mm", "/2mm", "1/mm", "-/2mm",
		"+1mm", "--1mm", "- 1mm", "1-mm", " 1mm", "1mm ", "1mm\n", "\t1mm", "1 mm", "1.5 mm", "1/2 mm", "1 1/2 mm", "- 1 1/2mm",
		"1  1/2mm", "1\t1/2mm", "1\u00a01/2mm", "1 1 /2mm", "1 1/ 2mm", "1 1 1/2mm", "1 -1/2mm", "1 1/-2mm", "1 1mm", "1 1.5mm", "1 .5mm", "1 1/2/3mm", "1/2/3mm", "1//2mm",
		"1.5/2mm", "1/2.5mm", "1.5 1/2mm", "1 1.5/2mm", "1 1/2.0mm", "1.2.3mm", "1..2mm", "1,5mm", " 1/2mm", "1 /2mm",
		"1MM", "1Mm", "1CM", "1M", "1IN", "1In", "1mmm", "1mmcm", "1mm1", "1mmm1", "1c", "1i", "1n", "1ni", "1km", "1dm", "1ft", "1\"", "1in.", "1inch", "1xmm", "1m m", "1\u339c", "1\uff4d", "\xffmm", "1\xffmm", "1m\xff", "1\u2044" + "2mm",
		"0xFmm", "1e2mm", "Infmm", "NaNm",
	} {
		fails(t, s, api.ErrSyntax)
	}
}

// P4.1: the length is counted in bytes, and an error of it comes before one of the syntax.
func TestParseLength(t *testing.T) {
	for _, s := range []string{
		strings.Repeat("1", 22) + "mm", strings.Repeat(" ", 24), strings.Repeat("\u0663", 12), "-9999999 9999999/999mm  ", "1" + strings.Repeat("m", 23), strings.Repeat("\xff", 24),
	} {
		if len(s) != 24 {
			t.Fatal(len(s), s)
		}
		fails(t, s, api.ErrSyntax)
		fails(t, s+"1", api.ErrTooLong)
		fails(t, " "+s, api.ErrTooLong)
		fails(t, s+s, api.ErrTooLong)
	}
	fails(t, "1."+strings.Repeat("0", 21)+"mm", api.ErrTooLong)
	fails(t, strings.Repeat("0", 24)+"1mm", api.ErrTooLong)
	fails(t, strings.Repeat("1mm", 7000), api.ErrTooLong)
	same(t, "Parse of the longest measure", parsed(t, "-9999999 9999999/999mm"), length("-999999900000/999"))
}

// grammar is the definition of a measure, with the parts of its value.
var grammar = regexp.MustCompile(strings.NewReplacer("W", "(?:0|[1-9][0-9]{0,6})", "D", "[1-9][0-9]{0,2}").Replace(
	"^(-?)(?:(W)|(W\\.[0-9]{1,4})|(W/D)|(W) (W/D))(mm|cm|m|in)$"))

// denoted returns what s denotes, as the definition says, or nil if s is no measure.
func denoted(s string) *big.Rat {
	part := grammar.FindStringSubmatch(s)
	if part == nil {
		return nil
	}
	sum := new(big.Rat)
	for _, text := range part[2:7] {
		if text != "" {
			sum.Add(sum, number(text))
		}
	}
	sum.Mul(sum, number(map[string]string{"mm": "100", "cm": "1000", "m": "100000", "in": "2540"}[part[7]]))
	if part[1] == "-" {
		sum.Neg(sum)
	}
	return sum
}

// P4.1: of short strings of these parts, Parse accepts exactly the measures.
func TestParseOfEveryShortString(t *testing.T) {
	parts := []string{"", "-", "0", "1", "20", " ", "/", ".", "3", "mm", "m", "in"}
	count := 0
	var extend func(s string, left int)
	extend = func(s string, left int) {
		if left == 0 {
			count += checkParse(t, s)
			return
		}
		for _, part := range parts {
			extend(s+part, left-1)
		}
	}
	extend("", 5)
	if count < 1000 {
		t.Errorf("only %d measures", count)
	}
}

// P4.1: of measures, and of measures with a part replaced, removed or put in, Parse accepts exactly the measures.
func TestParseOfDrawnStrings(t *testing.T) {
	draw := rand.New(rand.NewPCG(41, 1))
	numbers := []string{"0", "1", "7", "12", "05", "999", "1000", "9999999", "10000000", "0000", "123456"}
	pick := func(list ...string) string { return list[draw.IntN(len(list))] }
	count := 0
	for range 200000 {
		s := pick("", "", "-") + pick(numbers...)
		s += pick("", "."+pick(numbers...), "/"+pick(numbers...), " "+pick(numbers...)+"/"+pick(numbers...)) + pick("mm", "cm", "m", "in")
		if draw.IntN(3) == 0 {
			i := draw.IntN(len(s) + 1)
			j := min(len(s), i+draw.IntN(2))
			s = s[:i] + pick("", "", " ", "-", "/", ".", "0", "5", "m", "c", "\u0663", "\x80") + s[j:]
		}
		count += checkParse(t, s)
	}
	if count < 20000 {
		t.Errorf("only %d measures", count)
	}
}

// checkParse compares Parse of s with the grammar, and returns 1 if s is a measure.
func checkParse(t *testing.T, s string) int {
	want := denoted(s)
	switch {
	case len(s) > 24:
		fails(t, s, api.ErrTooLong)
	case want == nil:
		fails(t, s, api.ErrSyntax)
	default:
		same(t, "Parse "+s, parsed(t, s), normal(want))
		return 1
	}
	return 0
}

// R3: the result is new memory in each call.
func TestParseResultIsNewMemory(t *testing.T) {
	for range 2 {
		for s, want := range map[string]string{"0mm": "0", "1mm": "100", "-1/3in": "-2540/3", "9999999m": "999999900000"} {
			a, _ := measure.Parse(s)
			same(t, "Parse "+s, a, length(want))
			num, den := a.Num.Mag[:cap(a.Num.Mag)], a.Den[:cap(a.Den)]
			for i := range num {
				num[i] = 55
			}
			if !slices.Equal(a.Den, length(want).Den) {
				t.Errorf("Parse(%q): the numbers share memory", s)
			}
			for i := range den {
				den[i] = 66
			}
		}
	}
}
