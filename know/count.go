package know

import (
	"math/bits"

	"joust/api"
)

// most is the greatest count that is told; all that are greater stay at above.
const (
	most  = 1 << 62
	above = most + 1
)

func plus(a, b uint64) uint64 { return min(a+b, above) }

func times(a, b uint64) uint64 {
	high, low := bits.Mul64(a, b)
	if high > 0 {
		return above
	}
	return min(low, above)
}

// choose tells in how many ways k of n things may be taken; none, if there are not that many.
func choose(n, k int) uint64 {
	if k < 0 || k > n {
		return 0
	}
	ways := uint64(1)
	for i := range min(k, n-k) { // up to the half they never get less
		high, low := bits.Mul64(ways, uint64(n-i))
		if high > uint64(i) { // as much as bits.Div64 can't answer
			return above
		}
		ways, _ = bits.Div64(high, low, uint64(i+1))
		if ways > most {
			return above
		}
	}
	return ways
}

// odds is num of den, which is not 0, told without a common divisor.
func odds(num, den int) api.Odds {
	a, b := den, num
	for b > 0 {
		a, b = b, a%b
	}
	return api.Odds{Num: uint64(num / a), Den: uint64(den / a)}
}
