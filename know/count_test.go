package know

import (
	"math/big"
	"testing"

	"joust/api"
)

// bounded is a number as it is told: above stands for all that are greater than most.
func bounded(n *big.Int) uint64 {
	if n.Cmp(new(big.Int).SetUint64(most)) > 0 {
		return above
	}
	return n.Uint64()
}

// What is chosen of as many pieces as there may be, and more.
func TestChoose(t *testing.T) {
	for n := range 2*api.MaxCards + 1 {
		for k := -2; k <= n+2; k++ {
			want := uint64(0)
			if k >= 0 && k <= n {
				want = bounded(new(big.Int).Binomial(int64(n), int64(k)))
			}
			if is := choose(n, k); is != want {
				t.Fatalf("choose(%d, %d) = %d, not %d", n, k, is, want)
			}
		}
	}
}

// Products and sums at the edges of what is told.
func TestBounds(t *testing.T) {
	var l []uint64
	for _, n := range []uint64{0, 1 << 20, 1 << 30, 1 << 31, 1 << 32, 1 << 42, 1 << 61, most} {
		for i := range uint64(3) {
			l = append(l, min(n+i, above), min(n-i, n))
		}
	}
	for _, a := range l {
		for _, b := range l {
			x, y := new(big.Int).SetUint64(a), new(big.Int).SetUint64(b)
			if is, want := times(a, b), bounded(new(big.Int).Mul(x, y)); is != want {
				t.Errorf("%d by %d = %d, not %d", a, b, is, want)
			}
			if is, want := plus(a, b), bounded(new(big.Int).Add(x, y)); is != want {
				t.Errorf("%d and %d = %d, not %d", a, b, is, want)
			}
		}
	}
}

func TestOdds(t *testing.T) {
	for den := 1; den < 80; den++ {
		for num := range den + 1 {
			want := big.NewRat(int64(num), int64(den))
			if o := odds(num, den); o.Num != want.Num().Uint64() || o.Den != want.Denom().Uint64() {
				t.Errorf("%d of %d: %v", num, den, o)
			}
		}
	}
}
