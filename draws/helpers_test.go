package draws_test

import (
	"math"
	"math/big"
	"math/rand/v2"

	"garment/api"
)

// greatest is the greatest state.
const greatest = api.Draw(math.MaxUint64)

// big64 returns d as a number of the standard library, which serves as the oracle.
func big64(d api.Draw) *big.Int {
	return new(big.Int).SetUint64(uint64(d))
}

// power returns 2^n.
func power(n uint) *big.Int {
	return new(big.Int).Lsh(big.NewInt(1), n)
}

// next returns what the chapter says of Next.
func next(d api.Draw) (api.Draw, int) {
	state := new(big.Int).Mul(big64(d), big64(6364136223846793005))
	state.Add(state, big64(1442695040888963407)).Mod(state, power(64))
	number := new(big.Int).Quo(state, power(33))
	return api.Draw(state.Uint64()), int(number.Int64())
}

// below returns what the chapter says of Below.
func below(d api.Draw, n int) (api.Draw, int) {
	d, number := next(d)
	if n < 1 {
		return d, 0
	}
	rest := new(big.Int).Mod(big.NewInt(int64(number)), big.NewInt(int64(n)))
	return d, int(rest.Int64())
}

// shuffle returns what the chapter says of Shuffle.
func shuffle(d api.Draw, n int) (api.Draw, []int) {
	var order []int
	for i := 0; i < n && i < 1000; i++ {
		order = append(order, i)
	}
	j := 0
	for i := len(order) - 1; i > 0; i-- {
		if d, j = below(d, i+1); j != i {
			a, b := order[i], order[j]
			order[i], order[j] = b, a
		}
	}
	return d, order
}

// states returns the states at the ends and in the middle of their range, and drawn ones.
func states() []api.Draw {
	list := []api.Draw{0, 1, 2, 3, 41, 1<<31 - 1, 1 << 31, 1<<32 - 1, 1 << 32, 1<<33 - 1, 1 << 33, 1<<63 - 1, 1 << 63, 1<<63 + 1, greatest - 1, greatest}
	draw := rand.New(rand.NewPCG(5, 1))
	for range 30 {
		list = append(list, api.Draw(draw.Uint64()))
	}
	return list
}

// before returns the state whose next state is d.
func before(d api.Draw) api.Draw {
	inverse := new(big.Int).ModInverse(big64(6364136223846793005), power(64))
	state := new(big.Int).Sub(big64(d), big64(1442695040888963407))
	state.Mul(state, inverse).Mod(state, power(64))
	return api.Draw(state.Uint64())
}
