package natural

import (
	"math/bits"

	"garment/api"
)

// DivMod returns the quotient and the remainder of a divided by b, and false if b is 0.
func DivMod(a, b api.Nat) (api.Nat, api.Nat, bool) {
	a, b = trim(a), trim(b)
	switch {
	case len(b) == 0:
		return nil, nil, false
	case len(a) < len(b):
		return api.Nat{}, clone(a), true
	case len(b) == 1:
		quotient := clone(a)
		rest := divideByLimb(quotient, b[0])
		return trim(quotient), Of(uint64(rest)), true
	}
	quotient, rest := divideLong(a, b)
	return quotient, rest, true
}

// Gcd returns the greatest common divisor of a and b.
func Gcd(a, b api.Nat) api.Nat {
	a, b = trim(a), trim(b)
	// The divisors that fit into a word are left to machine arithmetic, because most numbers soon get there.
	for len(b) > 2 {
		_, rest, _ := DivMod(a, b)
		a, b = b, rest
	}
	if len(b) == 0 {
		return clone(a)
	}
	_, rest, _ := DivMod(a, b)
	return Of(gcdWords(word(b), word(rest)))
}

// Sqrt returns the greatest number whose square is at most a.
func Sqrt(a api.Nat) api.Nat {
	a = trim(a)
	if len(a) == 0 {
		return api.Nat{}
	}
	// Newton's iteration falls from any start that is not below the root, and stops falling at the root.
	root := powerAboveRoot(a)
	for {
		quotient, _, _ := DivMod(a, root)
		next := trim(shiftRight(Add(root, quotient), 1))
		if Cmp(next, root) >= 0 {
			return root
		}
		root = next
	}
}

// powerAboveRoot returns a power of 2 that is greater than the square root of a, which is not 0.
func powerAboveRoot(a api.Nat) api.Nat {
	last := len(a) - 1
	length := limbBits*last + bits.Len32(a[last])
	exponent := (length + 1) / 2
	power := make(api.Nat, exponent/limbBits+1)
	power[exponent/limbBits] = 1 << (exponent % limbBits)
	return power
}

// word returns a, which has at most two limbs.
func word(a api.Nat) uint64 {
	w := uint64(0)
	for i, limb := range a {
		w |= uint64(limb) << (limbBits * i)
	}
	return w
}

func gcdWords(a, b uint64) uint64 {
	for b != 0 {
		a, b = b, a%b
	}
	return a
}

// divideByLimb replaces a by its quotient by d, which is not 0, and returns the remainder.
func divideByLimb(a api.Nat, d uint32) uint32 {
	rest := uint64(0)
	for i := len(a) - 1; i >= 0; i-- {
		rest = rest<<limbBits | uint64(a[i])
		a[i] = uint32(rest / uint64(d))
		rest %= uint64(d)
	}
	return uint32(rest)
}

// divideLong returns the quotient and the remainder of a divided by b. Both are trimmed, b has at least two limbs, and a has no fewer.
func divideLong(a, b api.Nat) (api.Nat, api.Nat) {
	// With the highest bit of the divisor set, a digit that is guessed from the highest limbs is at most 1 too great.
	shift := bits.LeadingZeros32(b[len(b)-1])
	divisor := trim(shiftLeft(b, shift))
	rest := shiftLeft(a, shift)
	quotient := make(api.Nat, len(a)-len(b)+1)
	for i := len(quotient) - 1; i >= 0; i-- {
		part := rest[i : i+len(divisor)+1]
		digit := guessDigit(part, divisor)
		if subtractProduct(part, divisor, digit) {
			digit--
			addInto(part, divisor)
		}
		quotient[i] = digit
	}
	return trim(quotient), trim(shiftRight(trim(rest), shift))
}

// guessDigit returns the quotient of part divided by divisor, or one more. Part has one limb more than divisor and is less than 2^32 times it; the highest bit of divisor is set.
func guessDigit(part, divisor api.Nat) uint32 {
	n := len(divisor)
	high, second := uint64(divisor[n-1]), uint64(divisor[n-2])
	top := uint64(part[n])<<limbBits | uint64(part[n-1])
	digit, rest := top/high, top%high
	for digit>>limbBits != 0 || digit*second > rest<<limbBits|uint64(part[n-2]) {
		digit--
		rest += high
		if rest>>limbBits != 0 {
			break
		}
	}
	return uint32(digit)
}

// subtractProduct subtracts divisor * digit from part, which has one limb more than divisor, and reports whether the result is below 0, so that it wrapped around.
func subtractProduct(part, divisor api.Nat, digit uint32) bool {
	borrow := uint64(0)
	for i, limb := range divisor {
		product := uint64(limb)*uint64(digit) + borrow
		borrow = product >> limbBits
		low := uint32(product)
		if part[i] < low {
			borrow++
		}
		part[i] -= low
	}
	n := len(divisor)
	below := uint64(part[n]) < borrow
	part[n] -= uint32(borrow)
	return below
}

// shiftLeft returns a * 2^shift with one limb more than a; shift is at most 31.
func shiftLeft(a api.Nat, shift int) api.Nat {
	shifted := make(api.Nat, len(a)+1)
	for i, limb := range a {
		wide := uint64(limb) << shift
		shifted[i] |= uint32(wide)
		shifted[i+1] = uint32(wide >> limbBits)
	}
	return shifted
}

// shiftRight returns a / 2^shift, rounded down, with as many limbs as a; shift is at most 31.
func shiftRight(a api.Nat, shift int) api.Nat {
	shifted := make(api.Nat, len(a))
	carry := uint64(0)
	for i := len(a) - 1; i >= 0; i-- {
		wide := carry<<limbBits | uint64(a[i])
		shifted[i] = uint32(wide >> shift)
		carry = wide
	}
	return shifted
}
