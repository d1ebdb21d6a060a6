package mix

import (
	"iter"
	"math"
)

// step lies between two draws, ahead of their being mixed; it is odd, so that no two of 2^64 draws are alike.
const step = 11400714819323198485

// draws goes over the draws from a seed, from one on, each with its number. It doesn't end by itself.
func draws(seed, from uint64) iter.Seq2[uint64, uint64] {
	return func(yield func(uint64, uint64) bool) {
		for n := from; yield(n, Mix(seed+n*step)); n++ {
		}
	}
}

// below needs n above 0: then a draw that is small enough comes within a few, as at least half of all are.
func below(seed, at, n uint64) (value, next uint64) {
	bound := math.MaxUint64 - math.MaxUint64%n
	for i, draw := range draws(seed, at) {
		if draw < bound {
			value, next = draw%n, i+1
			break
		}
	}
	return value, next
}
