package mix_test

import (
	"math"
	"slices"
	"testing"

	"joust/api"
	"joust/mix"
)

// The words' numbers: how far draws lie apart, what a number is multiplied with, and how an odd one is undone by a product.
const (
	apartBy = uint64(11400714819323198485)
	first   = uint64(13787848793156543929)
	second  = uint64(10723151780598845931)
)

// inverse is the number by which an odd one comes to 1.
func inverse(n uint64) uint64 {
	x := n
	for range 6 {
		x *= 2 - n*x
	}
	return x
}

// unmoved is the number that, put over itself moved down, is n.
func unmoved(n uint64, by int) uint64 {
	x := n
	for range 64 / by {
		x = n ^ x>>by
	}
	return x
}

// unmixed is the number that is n when it is mixed.
func unmixed(n uint64) uint64 {
	n = unmoved(n, 31) * inverse(second)
	n = unmoved(n, 27) * inverse(first)
	return unmoved(n, 30) - apartBy
}

// P27.1: numbers by hand; each number is one that is mixed.
func TestMix(t *testing.T) {
	for n, want := range map[uint64]uint64{
		0:                   16294208416658607535,
		1:                   10451216379200822465,
		5:                   7134611160154358618,
		9:                   12587370737594032228,
		1234567:             6457827717110365317,
		1234567 + apartBy:   3203168211198807973,
		math.MaxUint64:      16490336266968443936,
		7046029254386353131: 0,
	} {
		if got := mix.Mix(n); got != want || unmixed(got) != n {
			t.Errorf("Mix(%d) = %d, not %d, which is undone as %d", n, got, want, unmixed(got))
		}
	}
}

// P27.1: commitments by hand, and of no secret; one that is 0 is one as well.
func TestCommit(t *testing.T) {
	for secret, want := range map[uint64]uint64{
		1:                            12793040940332582595,
		5:                            12038581038462365557,
		9:                            7519151885994536471,
		math.MaxUint64:               18159682518515982810,
		unmixed(unmixed(unmixed(0))): 0,
	} {
		if got, e := mix.Commit(secret); got != want || e != api.OK {
			t.Errorf("Commit(%d) = %d, %d, not %d", secret, got, e, want)
		}
	}
	if got, e := mix.Commit(0); got != 0 || e != api.ErrArg {
		t.Errorf("Commit(0) = %d, %d", got, e)
	}
}

// committed are the commitments to two secrets (to 0, too).
func committed(secrets [2]uint64) (commits [2]uint64) {
	for i, s := range secrets {
		commits[i] = mix.Mix(mix.Mix(mix.Mix(s)))
	}
	return commits
}

// P27.1: seeds by hand; the secrets aren't of one kind, as the second one is mixed once more.
func TestSeed(t *testing.T) {
	none := unmixed(unmixed(unmixed(0)))
	for secrets, want := range map[[2]uint64]uint64{
		{5, 9}:              5640170900075435733,
		{9, 5}:              8973584273739528493,
		{1, math.MaxUint64}: 1825874333470847916,
		{none, 5}:           mix.Mix(mix.Mix(none) ^ mix.Mix(mix.Mix(5))),
		// each mixed as often as it is comes to one number, and over itself that is 0
		{mix.Mix(6), 6}: mix.Mix(0),
	} {
		if got, e := mix.Seed(committed(secrets), secrets); got != want || e != api.OK {
			t.Errorf("Seed of %d = %d, %d, not %d", secrets, got, e, want)
		}
	}
}

// P27.1, rule 2: each error, and the one that is named first.
func TestSeedErrors(t *testing.T) {
	is := committed([2]uint64{5, 9})
	zeros := committed([2]uint64{0, 0})
	for i, c := range []struct {
		commits, secrets [2]uint64
		e                api.Errno
	}{
		{[2]uint64{zeros[0], is[1]}, [2]uint64{0, 9}, api.ErrArg},
		{[2]uint64{is[0], zeros[1]}, [2]uint64{5, 0}, api.ErrArg},
		{zeros, [2]uint64{0, 0}, api.ErrArg},
		{is, [2]uint64{0, 8}, api.ErrArg},
		{is, [2]uint64{8, 0}, api.ErrArg},
		{[2]uint64{is[0], is[0]}, [2]uint64{5, 5}, api.ErrArg},
		{[2]uint64{is[0], is[0]}, [2]uint64{5, 9}, api.ErrArg},
		{[2]uint64{is[1], is[1]}, [2]uint64{5, 9}, api.ErrArg},
		{[2]uint64{1, 1}, [2]uint64{5, 9}, api.ErrArg},
		{[2]uint64{0, 0}, [2]uint64{5, 9}, api.ErrArg},
		{is, [2]uint64{5, 8}, api.ErrRule},
		{is, [2]uint64{8, 9}, api.ErrRule},
		{is, [2]uint64{9, 5}, api.ErrRule},
		{is, [2]uint64{5, 5}, api.ErrRule},
		{is, [2]uint64{5, 5 << 1}, api.ErrRule},
		{[2]uint64{5, 9}, [2]uint64{5, 9}, api.ErrRule},
		{[2]uint64{is[0], 0}, [2]uint64{5, 9}, api.ErrRule},
		{[2]uint64{0, is[1]}, [2]uint64{5, 9}, api.ErrRule},
		{[2]uint64{mix.Mix(is[0]), is[1]}, [2]uint64{5, 9}, api.ErrRule},
		{[2]uint64{is[0], mix.Mix(mix.Mix(9))}, [2]uint64{5, 9}, api.ErrRule},
		{[2]uint64{is[0] ^ 1<<63, is[1]}, [2]uint64{5, 9}, api.ErrRule},
		{[2]uint64{is[0], is[1] ^ 1}, [2]uint64{5, 9}, api.ErrRule},
		{[2]uint64{}, [2]uint64{}, api.ErrArg},
	} {
		if got, e := mix.Seed(c.commits, c.secrets); got != 0 || e != c.e {
			t.Errorf("%d: Seed = %d, %d, not %d", i, got, e, c.e)
		}
	}
}

// P27.2: numbers by hand, and the draws themselves; behind the draw of the greatest number comes the draw 0.
func TestBelow(t *testing.T) {
	for _, c := range []struct{ seed, at, n, value, next uint64 }{
		{9, 0, 1, 0, 1},
		{9, 0, 6, 4, 1},
		{1, 3, 1000, 235, 4},
		{0, math.MaxUint64, 7, 0, 0},
		{3, 0, 1<<63 + 1, 2092789425003139053, 1},
		{2, 0, 1 << 63, 5747796768693156649, 5},
		{2, 4, 1 << 63, 5747796768693156649, 5},
		{50, 0, 1<<63 + 1, 1153103763598762999, 8},
		{12, 5, math.MaxUint64, 5425630273831533980, 6},
		{1234567, 0, math.MaxUint64, 6457827717110365317, 1},
		{1234567, 1, math.MaxUint64, 3203168211198807973, 2},
		{1234567, 2, math.MaxUint64, 9817491932198370423, 3},
		{1234567, 3, math.MaxUint64, 4593380528125082431, 4},
		{1234567, 4, math.MaxUint64, 16408922859458223821, 5},
	} {
		if value, next, e := mix.Below(c.seed, c.at, c.n); value != c.value || next != c.next || e != api.OK {
			t.Errorf("Below(%d, %d, %d) = %d, %d, %d, not %d, %d", c.seed, c.at, c.n, value, next, e, c.value, c.next)
		}
	}
	for _, at := range []uint64{0, 1, 77, math.MaxUint64} {
		if value, next, e := mix.Below(at, at, 0); value != 0 || next != 0 || e != api.ErrArg {
			t.Errorf("Below(%d, %d, 0) = %d, %d, %d", at, at, value, next, e)
		}
	}
}

// P27.2: of each n the draws at both sides of the greatest multiple that is at most 2^64 - 1, the least and the greatest one.
func TestBelowAtTheBound(t *testing.T) {
	for _, n := range []uint64{1, 2, 3, 5, 6, 7, 10, 15, 17, 255, 257, 1000, 65537, 1 << 32, 1<<32 + 1, 1<<62 - 1, 1<<63 - 1, 1 << 63, 1<<63 + 1, math.MaxUint64 - 1, math.MaxUint64} {
		bound := math.MaxUint64 / n * n
		for _, draw := range []uint64{0, 1, n - 1, n, bound - 2, bound - 1, bound, bound + 1, math.MaxUint64 - 1, math.MaxUint64} {
			for _, at := range []uint64{0, 1, 9, 1 << 63, math.MaxUint64 - 1, math.MaxUint64} {
				seed := unmixed(draw) - at*apartBy
				want, then := draw, at
				for ; want >= bound; want = mix.Mix(seed + then*apartBy) {
					then++
				}
				if value, next, e := mix.Below(seed, at, n); value != want%n || next != then+1 || e != api.OK {
					t.Errorf("the draw %d at %d, below %d: %d, %d, %d, not %d, %d", draw, at, n, value, next, e, want%n, then+1)
				}
			}
		}
	}
}

// P27.2: orders by hand, the shortest and the longest ones, and of sizes that may not be.
func TestOrder(t *testing.T) {
	for _, c := range []struct {
		seed uint64
		want []int
	}{
		{7, []int{8, 1, 5, 9, 0, 4, 3, 2, 6, 7}},
		{0, []int{2, 5, 0, 3, 4, 6, 1, 7}},
		{math.MaxUint64, []int{3, 2, 4, 11, 7, 9, 5, 10, 0, 1, 6, 8}},
		{7, []int{0}},
		{7, nil},
	} {
		if got, e := mix.Order(c.seed, len(c.want)); !slices.Equal(got, c.want) || e != api.OK {
			t.Errorf("Order(%d, %d) = %v, %d, not %v", c.seed, len(c.want), got, e, c.want)
		}
	}
	long, e := mix.Order(7, 1000)
	if !isOrder(long) || len(long) != 1000 || e != api.OK {
		t.Errorf("Order(7, 1000) = %v, %d", long, e)
	}
	for _, n := range []int{-1, -2, math.MinInt, 1001, 1002, math.MaxInt} {
		if got, e := mix.Order(7, n); len(got) > 0 || e != api.ErrArg {
			t.Errorf("Order(7, %d) = %v, %d", n, got, e)
		}
	}
}

// isOrder tells whether a list is an order.
func isOrder(l []int) bool {
	sorted := slices.Sorted(slices.Values(l))
	for i, one := range sorted {
		if one != i {
			return false
		}
	}
	return true
}

// P27.2, P27.3: orders and their lots by hand.
func TestLots(t *testing.T) {
	for _, c := range []struct{ order, lots []int }{
		{nil, nil},
		{[]int{}, []int{}},
		{[]int{0}, []int{0}},
		{[]int{0, 1}, []int{0, 0}},
		{[]int{1, 0}, []int{1, 0}},
		{[]int{2, 0, 1}, []int{2, 0, 0}},
		{[]int{1, 2, 0}, []int{1, 1, 0}},
		{[]int{0, 1, 2, 3}, []int{0, 0, 0, 0}},
		{[]int{3, 2, 1, 0}, []int{3, 2, 1, 0}},
		{[]int{1, 3, 0, 2}, []int{1, 2, 0, 0}},
		{[]int{8, 1, 5, 9, 0, 4, 3, 2, 6, 7}, []int{8, 1, 4, 6, 0, 2, 1, 0, 0, 0}},
	} {
		if got, e := mix.Lots(c.order); !slices.Equal(got, c.lots) || e != api.OK {
			t.Errorf("Lots(%v) = %v, %d, not %v", c.order, got, e, c.lots)
		}
		if got, e := mix.Of(c.lots); !slices.Equal(got, c.order) || e != api.OK {
			t.Errorf("Of(%v) = %v, %d, not %v", c.lots, got, e, c.order)
		}
	}
}

// P27.2: what is no order has no lots, and what are no lots are of no order.
func TestNoLots(t *testing.T) {
	rising := make([]int, 1001)
	for i := range rising {
		rising[i] = i
	}
	twice := slices.Clone(rising[:1000])
	twice[999] = 0
	for _, l := range [][]int{{1}, {-1}, {0, 0}, {1, 1}, {0, 2}, {2, 0}, {0, -1}, {-1, 0}, {0, 1, 1}, {0, 1, 3}, {1, 2, 3}, {math.MinInt}, {0, math.MaxInt}, make([]int, 1000), make([]int, 1001), rising, twice} {
		if got, e := mix.Lots(l); len(got) > 0 || e != api.ErrArg {
			t.Errorf("Lots(%v) = %v, %d", l, got, e)
		}
	}
	above := make([]int, 1000)
	above[999] = 1
	for _, l := range [][]int{{1}, {-1}, {0, 1}, {2, 0}, {0, -1}, {-1, 0}, {2, 0, 1}, {2, 2, 0}, {3, 0, 0}, {math.MinInt}, {math.MaxInt, 0}, make([]int, 1001), rising[:2], above} {
		if got, e := mix.Of(l); len(got) > 0 || e != api.ErrArg {
			t.Errorf("Of(%v) = %v, %d", l, got, e)
		}
	}
}

// P27.2, P27.3: the longest orders and lots that there are.
func TestLongLots(t *testing.T) {
	rising, falling := make([]int, 1000), make([]int, 1000)
	for i := range rising {
		rising[i], falling[999-i] = i, i
	}
	for _, c := range []struct{ order, lots []int }{{rising, make([]int, 1000)}, {falling, falling}} {
		lots, e := mix.Lots(c.order)
		order, f := mix.Of(c.lots)
		if !slices.Equal(lots, c.lots) || !slices.Equal(order, c.order) || e != api.OK || f != api.OK {
			t.Errorf("Lots = %v, %d; Of = %v, %d", lots, e, order, f)
		}
	}
}

// P27.2: a script by hand, those without a deck, the longest one, and sizes that may not be.
func TestScript(t *testing.T) {
	ten, eight := []int{8, 1, 4, 6, 0, 2, 1, 0, 0, 0}, []int{3, 3, 5, 2, 0, 2, 0, 0}
	for sizes, want := range map[[2]int][]int{
		{10, 8}: slices.Concat(ten, eight),
		{10, 0}: ten,
		{0, 8}:  eight,
		{10, 1}: append(slices.Clone(ten), 0),
		{0, 0}:  nil,
	} {
		if got, e := mix.Script(7, sizes); !slices.Equal(got, want) || e != api.OK {
			t.Errorf("Script(7, %d) = %v, %d, not %v", sizes, got, e, want)
		}
	}
	long, e := mix.Script(7, [2]int{1000, 1000})
	if len(long) != 2000 || slices.Equal(long[:1000], long[1000:]) || e != api.OK {
		t.Errorf("Script(7, 1000 and 1000) = %v, %d", long, e)
	}
	for _, sizes := range [][2]int{{-1, 8}, {8, -1}, {1001, 8}, {8, 1001}, {-1, 1001}, {math.MinInt, 0}, {0, math.MaxInt}} {
		if got, e := mix.Script(7, sizes); len(got) > 0 || e != api.ErrArg {
			t.Errorf("Script(7, %d) = %v, %d", sizes, got, e)
		}
	}
}
