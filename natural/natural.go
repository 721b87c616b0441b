// Package natural computes with natural numbers of any size: see shared/doc/01-natural.md.
package natural

import "garment/api"

// limbBits is the number of bits of a limb.
const limbBits = 32

// Of returns n.
func Of(n uint64) api.Nat {
	return trim(api.Nat{uint32(n), uint32(n >> limbBits)})
}

// Norm returns a without high zero limbs.
func Norm(a api.Nat) api.Nat {
	return clone(trim(a))
}

// Cmp returns -1, 0 or 1 if a is less than, equal to or greater than b.
func Cmp(a, b api.Nat) int {
	a, b = trim(a), trim(b)
	if len(a) != len(b) {
		return sign(len(a) > len(b))
	}
	for i := len(a) - 1; i >= 0; i-- {
		if a[i] != b[i] {
			return sign(a[i] > b[i])
		}
	}
	return 0
}

// Add returns a + b.
func Add(a, b api.Nat) api.Nat {
	a, b = trim(a), trim(b)
	if len(a) < len(b) {
		a, b = b, a
	}
	sum := make(api.Nat, len(a)+1)
	copy(sum, a)
	addInto(sum, b)
	return trim(sum)
}

// Sub returns a - b, and false if b is greater than a.
func Sub(a, b api.Nat) (api.Nat, bool) {
	if Cmp(a, b) < 0 {
		return nil, false
	}
	rest := Norm(a)
	borrow := uint64(0)
	for i := range rest {
		d := uint64(rest[i]) - borrow
		if i < len(b) {
			d -= uint64(b[i])
		}
		rest[i] = uint32(d)
		// A difference below 0 wraps around, so that its highest bit is set.
		borrow = d >> 63
	}
	return trim(rest), true
}

// Mul returns a * b.
func Mul(a, b api.Nat) api.Nat {
	a, b = trim(a), trim(b)
	product := make(api.Nat, len(a)+len(b))
	for i, limb := range a {
		end := i + len(b)
		product[end] = addProduct(product[i:end], b, limb)
	}
	return trim(product)
}

// trim returns a without high zero limbs, in the memory of a.
func trim(a api.Nat) api.Nat {
	n := len(a)
	for n > 0 && a[n-1] == 0 {
		n--
	}
	return a[:n]
}

// clone returns a in new memory.
func clone(a api.Nat) api.Nat {
	c := make(api.Nat, len(a))
	copy(c, a)
	return c
}

func sign(greater bool) int {
	if greater {
		return 1
	}
	return -1
}

// addInto adds b to sum, which has at least as many limbs. What does not fit into sum is dropped.
func addInto(sum, b api.Nat) {
	carry := uint64(0)
	for i := range sum {
		carry += uint64(sum[i])
		if i < len(b) {
			carry += uint64(b[i])
		}
		sum[i] = uint32(carry)
		carry >>= limbBits
	}
}

// addProduct adds b * limb to sum, which has as many limbs as b, and returns what does not fit into sum.
func addProduct(sum, b api.Nat, limb uint32) uint32 {
	carry := uint64(0)
	for i, x := range b {
		// At most (2^32 - 1)^2 + 2 * (2^32 - 1), which is 2^64 - 1.
		carry += uint64(x)*uint64(limb) + uint64(sum[i])
		sum[i] = uint32(carry)
		carry >>= limbBits
	}
	return uint32(carry)
}
