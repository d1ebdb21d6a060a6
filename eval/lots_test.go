package eval_test

import (
	"math/rand/v2"
	"slices"
	"testing"

	"joust/api"
	"joust/eval"
	"joust/might"
)

// pieces is a second reading of Count: all that are of a Sel, put in order.
func pieces(x api.Table, who uint8, id int, sel api.Sel) []int {
	var l []int
	for piece := range x.Pieces {
		if might.Of(x, who, id, sel, piece) {
			l = append(l, piece)
		}
	}
	rank := func(piece int) int {
		p := x.Pieces[piece]
		return (int(p.Has^who)*1000+p.At)*1000 + piece
	}
	slices.SortFunc(l, func(a, b int) int { return rank(a) - rank(b) })
	return l
}

// P8.1: Count of each Sel, for each player, against the second reading.
func TestCountOfEach(t *testing.T) {
	x := spread(t)
	seen := map[int]int{}
	for who := range uint8(2) {
		for _, id := range []int{-1, 0, 3, 8, 20, len(x.Pieces) - 1, len(x.Pieces)} {
			for side := range uint8(6) {
				for zone := range uint8(api.Nowhere + 2) {
					for kind := range uint8(7) {
						sel := api.Sel{Side: side, Zone: zone, Kind: kind}
						want := pieces(x, who, id, sel)
						if l := eval.Count(x, who, id, sel); !slices.Equal(l, want) {
							t.Fatalf("Count(%d, %d, %+v) = %v; not %v", who, id, sel, l, want)
						}
						seen[len(want)]++
					}
				}
			}
		}
	}
	if seen[0] < 100 || seen[1] < 50 || seen[2] < 50 || seen[6] < 10 || seen[8] < 5 {
		t.Errorf("%v", seen)
	}
}

// depth is how deep an expression is, by those parts alone that it is made of.
func depth(x api.Expr) int {
	deepest := 0
	if x.Op <= lastOp {
		for _, part := range x.Args[:min(len(x.Args), madeOf(x.Op))] {
			deepest = max(deepest, depth(part))
		}
	}
	return deepest + 1
}

// whole tells whether an expression, and each part of it, is one.
func whole(x api.Expr) bool {
	if x.Op > lastOp || len(x.Args) < madeOf(x.Op) || x.Op == api.ExLife && x.Side > api.Self {
		return false
	}
	return !slices.ContainsFunc(x.Args[:madeOf(x.Op)], func(part api.Expr) bool { return !whole(part) })
}

// told is a second reading of Value, of an expression that is whole.
func told(x api.Table, who uint8, id int, e api.Expr) int64 {
	switch e.Op {
	case api.ExNumber:
		return clamp(int64(e.N))
	case api.ExLife:
		lives := [...]int{x.Life[who], x.Life[who^1], x.Life[0] + x.Life[1], x.Life[who]}
		return clamp(int64(lives[e.Side]))
	case api.ExCount:
		return int64(len(pieces(x, who, id, e.Sel)))
	case api.ExAttack:
		return int64(might.Attack(x, id))
	case api.ExNot:
		return combined(e.Op, told(x, who, id, e.Args[0]), 0)
	}
	return combined(e.Op, told(x, who, id, e.Args[0]), told(x, who, id, e.Args[1]))
}

// byLot is an expression of at most so many levels; some have too few parts, some too many, some are none.
func byLot(lot *rand.Rand, levels int) api.Expr {
	e := api.Expr{Op: uint8(lot.IntN(4)), Side: uint8(lot.IntN(4)), Sel: api.Sel{Side: uint8(lot.IntN(4)), Zone: uint8(lot.IntN(8)), Kind: uint8(lot.IntN(6))}}
	e.N = []int{lot.IntN(10), lot.IntN(1000), lot.IntN(99999), -lot.IntN(99999), 1 << 40, 0}[lot.IntN(6)]
	count := 0
	if levels > 1 && lot.IntN(8) > 0 {
		e.Op = api.ExAdd + uint8(lot.IntN(8))
		count = madeOf(e.Op)
	}
	switch lot.IntN(100) {
	case 0:
		e.Op = uint8(lot.IntN(20))
	case 1:
		e.Side = uint8(lot.IntN(8))
	case 2:
		count = lot.IntN(2)
	case 3, 4:
		count = 3
	}
	for range count {
		e.Args = append(e.Args, byLot(lot, max(1, levels-1)))
	}
	return e
}

// P8.1: Value and All by lot, against the second reading.
func TestValueByLot(t *testing.T) {
	lot := rand.New(rand.NewPCG(8, 1))
	x := spread(t)
	var deep, broken, zeros, others int
	for range 60000 {
		x.Life = [2]int{lot.IntN(1000), lot.IntN(99999)}
		who, id := uint8(lot.IntN(2)), lot.IntN(len(x.Pieces)+1)
		e := byLot(lot, 1+lot.IntN(api.MaxDepth+1))
		want := 0
		switch {
		case depth(e) > api.MaxDepth:
			deep++
		case !whole(e):
			broken++
		default:
			want = int(told(x, who, id, e))
			if want == 0 {
				zeros++
			} else {
				others++
			}
		}
		if n := eval.Value(x, who, id, e); n != want {
			t.Fatalf("Value(%d, %d, %+v) = %d; not %d", who, id, e, n, want)
		}
		if eval.All(x, who, id, []api.Expr{number(1), e}) != (want != 0) {
			t.Fatalf("All(%d, %d, %+v)", who, id, e)
		}
	}
	if min(deep, broken, zeros, others) < 2000 {
		t.Errorf("%d too deep, %d broken, %d are 0, %d are not", deep, broken, zeros, others)
	}
}
