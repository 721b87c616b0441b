package digest

import "math/bits"

const (
	// modulusBits is the number of binary digits of modulus, all of which are 1.
	modulusBits = 61
	modulus     = 1<<modulusBits - 1
	base        = 1099511628211
)

// times returns a * b modulo modulus, for a and b below it.
func times(a, b uint64) uint64 {
	high, low := bits.Mul64(a, b)
	// 2^61 is 1 modulo modulus, so that the digits from there on count like those below.
	above := high<<(64-modulusBits) | low>>modulusBits
	return (above + low&modulus) % modulus
}

// power returns base^n modulo modulus, and 1 for a negative n.
func power(n int) uint64 {
	product := uint64(1)
	// The binary digits of n say which of the powers to 1, 2, 4, .. are factors.
	for square := uint64(base); n > 0; n /= 2 {
		if n%2 == 1 {
			product = times(product, square)
		}
		square = times(square, square)
	}
	return product
}
