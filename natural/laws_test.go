package natural_test

import (
	"slices"
	"testing"

	"garment/api"
	"garment/natural"
)

// P1.9: sums and products are commutative and associative, products distribute over sums, what was added can be subtracted.
func TestLawsOfSumsAndProducts(t *testing.T) {
	list := samples()
	pairs(func(a, b api.Nat) {
		same(t, "a + b", natural.Add(a, b), natural.Add(b, a))
		same(t, "a * b", natural.Mul(a, b), natural.Mul(b, a))
		rest, ok := natural.Sub(natural.Add(a, b), b)
		same(t, "a + b - b", rest, natural.Norm(a))
		if !ok {
			t.Errorf("%v cannot be subtracted", b)
		}
		for _, c := range list[:30] {
			same(t, "(a + b) + c", natural.Add(natural.Add(a, b), c), natural.Add(a, natural.Add(b, c)))
			same(t, "(a * b) * c", natural.Mul(natural.Mul(a, b), c), natural.Mul(a, natural.Mul(b, c)))
			same(t, "a * (b + c)", natural.Mul(a, natural.Add(b, c)), natural.Add(natural.Mul(a, b), natural.Mul(a, c)))
		}
	})
}

// P1.9: a number is q * b + r.
func TestLawOfDivision(t *testing.T) {
	pairs(func(a, b api.Nat) {
		q, r, ok := natural.DivMod(a, b)
		if ok != (len(natural.Norm(b)) > 0) {
			t.Errorf("DivMod(%v, %v): %v", a, b, ok)
		}
		if !ok {
			return
		}
		same(t, "q * b + r", natural.Add(natural.Mul(q, b), r), natural.Norm(a))
		if natural.Cmp(r, b) >= 0 {
			t.Errorf("the remainder of %v by %v is %v", a, b, r)
		}
	})
}

// P1.9: the greatest common divisor divides both numbers, and a common factor can be taken out of it.
func TestLawsOfDivisors(t *testing.T) {
	list := samples()
	pairs(func(a, b api.Nat) {
		g := natural.Gcd(a, b)
		same(t, "Gcd", natural.Gcd(b, a), g)
		if len(g) > 0 {
			_, r, _ := natural.DivMod(a, g)
			same(t, "the rest of the first number", r, nil)
			_, r, _ = natural.DivMod(b, g)
			same(t, "the rest of the second number", r, nil)
		}
		for _, c := range list[:10] {
			same(t, "Gcd of multiples", natural.Gcd(natural.Mul(a, c), natural.Mul(b, c)), natural.Mul(g, c))
		}
	})
}

// P1.9: the square of the root is at most the number, that of the next number is greater; the root of a square is its side.
func TestLawsOfRoots(t *testing.T) {
	for _, a := range samples() {
		root := natural.Sqrt(a)
		next := natural.Add(root, api.Nat{1})
		if natural.Cmp(natural.Mul(root, root), a) > 0 || natural.Cmp(natural.Mul(next, next), a) <= 0 {
			t.Errorf("the root of %v is %v", a, root)
		}
		same(t, "Sqrt of a square", natural.Sqrt(natural.Mul(a, a)), natural.Norm(a))
	}
}

// P1.9: Parse of Text is the number, if it has at most MaxDigits digits, and Text of what Parse accepts is the string.
func TestLawsOfTexts(t *testing.T) {
	for _, a := range samples() {
		s := natural.Text(a)
		b, e := natural.Parse(s)
		same(t, "Parse of Text", b, natural.Norm(a))
		if e != api.OK {
			t.Errorf("Parse(%q): %d", s, e)
		}
	}
	for _, s := range []string{"0", "9", "10", "1000000000", "1000000001000000000", "90071992547409920000000001"} {
		if a, e := natural.Parse(s); e != api.OK || natural.Text(a) != s {
			t.Errorf("Parse(%q): %v, %d", s, a, e)
		}
	}
	tooLong := slices.Repeat(api.Nat{full}, 21)
	if a, e := natural.Parse(natural.Text(tooLong)); e != api.ErrTooLong || len(a) != 0 {
		t.Errorf("Parse of %d digits: %v, %d", len(natural.Text(tooLong)), a, e)
	}
}
