package mix_test

import (
	"math"
	"math/big"
	"math/rand/v2"
	"slices"
	"testing"

	"joust/api"
	"joust/mix"
)

// great is a number, as great as it may get.
func great(n uint64) *big.Int { return new(big.Int).SetUint64(n) }

// rest is what of a number isn't let go.
func rest(n *big.Int) *big.Int {
	return n.Mod(n, new(big.Int).Lsh(big.NewInt(1), 64))
}

// mixed is a second reading of Mix.
func mixed(n uint64) uint64 {
	x := rest(great(n).Add(great(n), great(apartBy)))
	for _, c := range []struct {
		by    uint
		times uint64
	}{{30, first}, {27, second}, {31, 1}} {
		x.Xor(x, new(big.Int).Rsh(x, c.by))
		rest(x.Mul(x, great(c.times)))
	}
	return x.Uint64()
}

// drawn is a second reading of the draws.
func drawn(seed, n uint64) uint64 {
	by := new(big.Int).Mul(great(n), great(apartBy))
	return mixed(rest(by.Add(by, great(seed))).Uint64())
}

// below is a second reading of Below.
func below(seed, at, n uint64) (value, next uint64) {
	top := great(math.MaxUint64)
	bound := new(big.Int).Div(top, great(n))
	bound.Mul(bound, great(n))
	for {
		draw := great(drawn(seed, at))
		at++
		if draw.Cmp(bound) < 0 {
			return draw.Mod(draw, great(n)).Uint64(), at
		}
	}
}

// ordered is a second reading of Order.
func ordered(seed uint64, n int) []int {
	l, at := make([]int, n), uint64(0)
	for i := range l {
		l[i] = i
	}
	for i := n - 1; i >= 1; i-- {
		value, next := below(seed, at, uint64(i+1))
		l[i], l[int(value)], at = l[int(value)], l[i], next
	}
	return l
}

// lotted is a second reading of Lots: each lot is how many less ones come behind.
func lotted(order []int) []int {
	lots := make([]int, len(order))
	for i, one := range order {
		for _, other := range order[i+1:] {
			if other < one {
				lots[i]++
			}
		}
	}
	return lots
}

// of is a second reading of Of: from the end on, each one that is not less than a lot goes up by one to let it in.
func of(lots []int) []int {
	order := slices.Clone(lots)
	for i := len(order) - 2; i >= 0; i-- {
		for j := i + 1; j < len(order); j++ {
			if order[j] >= order[i] {
				order[j]++
			}
		}
	}
	return order
}

// areLots tells whether a list's numbers are lots.
func areLots(l []int) bool {
	for i, lot := range l {
		if lot < 0 || lot > len(l)-i-1 {
			return false
		}
	}
	return true
}

// number draws one that is small, great, or anything.
func number(lot *rand.Rand) uint64 {
	switch lot.IntN(4) {
	case 0:
		return lot.Uint64N(50)
	case 1:
		return -lot.Uint64N(50)
	case 2:
		return 1<<lot.UintN(64) + lot.Uint64N(3) - 1
	}
	return lot.Uint64()
}

// P27.1, P27.2: numbers, commitments, seeds and draws by lot, against the second reading.
func TestNumbersByLot(t *testing.T) {
	lot := rand.New(rand.NewPCG(27, 1))
	for range 20000 {
		a, b, at := number(lot), number(lot), number(lot)
		if got := mix.Mix(a); got != mixed(a) {
			t.Fatalf("Mix(%d) = %d, not %d", a, got, mixed(a))
		}
		commits := [2]uint64{mixed(mixed(mixed(a))), mixed(mixed(mixed(b)))}
		if got, e := mix.Commit(a); a > 0 && (got != commits[0] || e != api.OK) {
			t.Fatalf("Commit(%d) = %d, %d", a, got, e)
		}
		want := mixed(mixed(a) ^ mixed(mixed(b)))
		if got, e := mix.Seed(commits, [2]uint64{a, b}); a > 0 && b > 0 && a != b && (got != want || e != api.OK) {
			t.Fatalf("Seed of %d, %d = %d, %d, not %d", a, b, got, e, want)
		}
		if b == 0 {
			continue
		}
		value, next, e := mix.Below(a, at, b)
		if v, n := below(a, at, b); value != v || next != n || e != api.OK {
			t.Fatalf("Below(%d, %d, %d) = %d, %d, %d, not %d, %d", a, at, b, value, next, e, v, n)
		}
	}
}

// P27.2, P27.3: orders, lots and scripts by lot, against the second reading.
func TestOrdersByLot(t *testing.T) {
	lot := rand.New(rand.NewPCG(27, 2))
	for i := range 1000 {
		seed, sizes := number(lot), [2]int{lot.IntN(41), lot.IntN(41)}
		if i%100 == 0 {
			sizes[lot.IntN(2)] = 960 + lot.IntN(41)
		}
		var want []int
		for i, s := range []uint64{seed, mixed(seed)} {
			order, e := mix.Order(s, sizes[i])
			if !slices.Equal(order, ordered(s, sizes[i])) || e != api.OK {
				t.Fatalf("Order(%d, %d) = %v, %d", s, sizes[i], order, e)
			}
			lots, e := mix.Lots(order)
			back, f := mix.Of(lots)
			if !slices.Equal(lots, lotted(order)) || !slices.Equal(back, order) || e != api.OK || f != api.OK {
				t.Fatalf("Lots(%v) = %v, %d, of which Of is %v, %d", order, lots, e, back, f)
			}
			want = append(want, lots...)
		}
		if got, e := mix.Script(seed, sizes); !slices.Equal(got, want) || e != api.OK {
			t.Fatalf("Script(%d, %d) = %v, %d, not %v", seed, sizes, got, e, want)
		}
	}
}

// P27.2, P27.3: all short lists of small numbers, whether orders, lots, or neither.
func TestShortLists(t *testing.T) {
	orders, lots := [7]int{}, [7]int{}
	var try func(l []int, size int)
	try = func(l []int, size int) {
		if len(l) < size {
			for n := -1; n <= size; n++ {
				try(append(slices.Clip(l), n), size)
			}
			return
		}
		got, e := mix.Lots(l)
		if isOrder(l) {
			orders[size]++
			if back, f := mix.Of(got); !slices.Equal(got, lotted(l)) || !slices.Equal(back, l) || e != api.OK || f != api.OK {
				t.Errorf("Lots(%v) = %v, %d, of which Of is %v, %d", l, got, e, back, f)
			}
		} else if len(got) > 0 || e != api.ErrArg {
			t.Errorf("Lots(%v) = %v, %d", l, got, e)
		}
		got, e = mix.Of(l)
		if areLots(l) {
			lots[size]++
			if back, f := mix.Lots(got); !slices.Equal(got, of(l)) || !slices.Equal(back, l) || e != api.OK || f != api.OK {
				t.Errorf("Of(%v) = %v, %d, of which Lots are %v, %d", l, got, e, back, f)
			}
		} else if len(got) > 0 || e != api.ErrArg {
			t.Errorf("Of(%v) = %v, %d", l, got, e)
		}
	}
	for size := range 7 {
		try(nil, size)
	}
	if want := [7]int{1, 1, 2, 6, 24, 120, 720}; orders != want || lots != want {
		t.Errorf("%v orders, %v lots, not %v", orders, lots, want)
	}
}
