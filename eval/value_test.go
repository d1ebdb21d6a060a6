package eval_test

import (
	"math"
	"testing"

	"joust/api"
	"joust/eval"
)

// lastOp is the last thing that an expression may be.
const lastOp = api.ExNot

// madeOf is how many parts an expression is made of.
func madeOf(op uint8) int {
	return [...]int{0, 0, 0, 0, 2, 2, 2, 2, 2, 2, 2, 1}[op]
}

func number(n int) api.Expr { return api.Expr{N: n} }

func of(op uint8, args ...api.Expr) api.Expr { return api.Expr{Op: op, Args: args} }

func clamp(n int64) int64 { return max(-99999, min(n, 99999)) }

// combined is a second reading of what two values come to.
func combined(op uint8, a, b int64) int64 {
	is := map[uint8]bool{api.ExLess: a < b, api.ExSame: a == b, api.ExAnd: a*b != 0, api.ExOr: a*a+b*b != 0, api.ExNot: a == 0}
	if so, ok := is[op]; ok {
		if so {
			return 1
		}
		return 0
	}
	return clamp(map[uint8]int64{api.ExAdd: a + b, api.ExSub: a - b, api.ExMul: a * b}[op])
}

// P8.1: what two values, or one, come to, at all edges.
func TestCombined(t *testing.T) {
	x := rows(t)
	edges := []int{0, 1, 2, 3, 7, 315, 316, 317, 400, 49999, 50000, 99998, 99999, 100000, math.MaxInt}
	for _, n := range edges[1:] {
		edges = append(edges, -n)
	}
	for _, a := range append(edges, math.MinInt) {
		for _, b := range append(edges, math.MinInt) {
			for op := uint8(api.ExAdd); op <= lastOp; op++ {
				want := combined(op, clamp(int64(a)), clamp(int64(b)))
				if n := eval.Value(x, 0, 0, of(op, number(a), number(b))); int64(n) != want {
					t.Errorf("%d of %d and %d = %d; not %d", op, a, b, n, want)
				}
			}
		}
	}
}

// P8.1: some values as the chapter's words have them.
func TestWords(t *testing.T) {
	x := rows(t)
	for text, n := range map[string]int{
		"(+ 2 3)": 5, "(- 2 3)": -1, "(- 3 2)": 1, "(* 2 3)": 6, "(* 0 3)": 0, "(* 3 (- 0 3))": -9, "(* (- 0 3) (- 0 3))": 9,
		"(< 2 3)": 1, "(< 3 2)": 0, "(< 3 3)": 0, "(< (- 0 3) 2)": 1, "(= 3 3)": 1, "(= 3 2)": 0, "(= 0 (- 3 3))": 1,
		"(and 0 0)": 0, "(and 0 3)": 0, "(and 3 0)": 0, "(and 3 5)": 1, "(and (- 0 1) (- 0 1))": 1, "(or 0 0)": 0, "(or 0 3)": 1, "(or 3 0)": 1, "(or 3 5)": 1, "(or 1 (- 0 1))": 1,
		"(not 0)": 1, "(not 1)": 0, "(not 5)": 0, "(not (- 0 1))": 0, "(not (not 5))": 1,
		"(+ life mine (* 100 count mine row all))": 500, "(< power life theirs)": 1, "(= count theirs row unit 1)": 1,
	} {
		want(t, x, 0, 0, text, n)
	}
}

// P8.1: each value on the way is put into the bounds, too.
func TestOnTheWay(t *testing.T) {
	x := rows(t)
	x.Life = [2]int{99999, 99999}
	for text, n := range map[string]int{
		"(- (+ 99999 99999) 99999)": 0, "(- (* 99999 99999) 99998)": 1, "(+ (- (- 0 99999) 5) 99999)": 0, "(+ (* 99999 (- 0 99999)) 99999)": 0,
		"(= (+ 99999 1) 99999)": 1, "(< 99999 (+ 99999 1))": 0, "(- life any 99999)": 0, "(= life any life mine)": 1, "(* (- 0 99999) (- 0 99999))": 99999,
	} {
		want(t, x, 0, 0, text, n)
	}
	for _, c := range [][3]int{{math.MaxInt, 99999, 0}, {100000, 1, 99998}, {math.MinInt, -99999, 0}, {0, math.MinInt, 99999}, {math.MinInt, math.MaxInt, -99999}} {
		if n := eval.Value(x, 0, 0, of(api.ExSub, number(c[0]), number(c[1]))); n != c[2] {
			t.Errorf("%d - %d = %d", c[0], c[1], n)
		}
	}
}

// nested is an expression so deep, of this kind alone, that goes on in its first or its last part.
func nested(op uint8, deep int, last bool) api.Expr {
	x := number(1)
	for range deep - 1 {
		args := []api.Expr{x, number(1)}
		if last {
			args = []api.Expr{number(1), x}
		}
		if madeOf(op) == 1 {
			args = []api.Expr{x}
		}
		x = of(op, args...)
	}
	return x
}

// P8.1: an expression of MaxDepth is told, a deeper one is 0; it makes no odds in which part.
func TestDepth(t *testing.T) {
	x := rows(t)
	for _, last := range []bool{false, true} {
		for op, wants := range map[uint8][6]int{
			api.ExAdd: {1, 2, 3, 4, 5, 6},
			api.ExMul: {1, 1, 1, 1, 1, 1},
			api.ExOr:  {1, 1, 1, 1, 1, 1},
			api.ExAnd: {1, 1, 1, 1, 1, 1},
			api.ExNot: {1, 0, 1, 0, 1, 0},
		} {
			for deep := 1; deep < 12; deep++ {
				want := 0
				if deep <= api.MaxDepth {
					want = wants[deep-1]
				}
				if n := eval.Value(x, 0, 0, nested(op, deep, last)); n != want {
					t.Errorf("%d, %d deep = %d; not %d", op, deep, n, want)
				}
			}
		}
	}
	for _, leaf := range []api.Expr{{Op: api.ExLife}, {Op: api.ExCount, Sel: api.Sel{Zone: api.Row}}, {Op: api.ExAttack}} {
		for deep, want := range map[int]bool{5: true, 6: false} {
			e := leaf
			for range deep {
				e = of(api.ExOr, number(1), e)
			}
			if is := eval.All(x, 0, 0, []api.Expr{e}); is != want {
				t.Errorf("%d below %d", leaf.Op, deep)
			}
		}
	}
}

// P8.1: an expression that stands within itself is too deep, unless it stands beyond its parts.
func TestWithinItself(t *testing.T) {
	x := rows(t)
	for op := uint8(0); op <= lastOp; op++ {
		l := []api.Expr{number(1), number(1), number(1)}
		l[0] = api.Expr{Op: op, N: 5, Args: l}
		l[1] = l[0]
		n := eval.Value(x, 0, 0, l[0])
		if want := [...]int{5, 300, 0, 1300}; madeOf(op) == 0 && n != want[op] || madeOf(op) > 0 && n != 0 {
			t.Errorf("%d = %d", op, n)
		}
		l[0], l[1] = number(1), number(1)
		l[2] = of(op, l...)
		if n := eval.Value(x, 0, 0, of(api.ExAdd, l...)); n != 2 {
			t.Errorf("1 + 1, and one within itself = %d", n)
		}
	}
}

// bad is expressions that can't be told.
func bad() []api.Expr {
	one := number(1)
	l := []api.Expr{{Op: api.ExNot}, {Op: api.ExNot, Args: []api.Expr{}}, {Op: api.ExLife, Side: api.Self + 1}, {Op: api.ExLife, Side: 255}}
	for op := uint8(api.ExAdd); op < api.ExNot; op++ {
		l = append(l, of(op), of(op, one))
	}
	for _, op := range []uint8{lastOp + 1, 13, 100, 255} {
		l = append(l, of(op), of(op, one), of(op, one, one), of(op, one, one, one))
	}
	return append(l, nested(api.ExOr, api.MaxDepth, true))
}

// P8.1: what can't be told is 0; so is all that has it as a part, at whatever place, whatever the other part comes to.
func TestBad(t *testing.T) {
	x := rows(t)
	for i, b := range bad() {
		if i+1 < len(bad()) && (eval.Value(x, 0, 0, b) != 0 || eval.Value(x, 1, 2, b) != 0 || eval.All(x, 0, 0, []api.Expr{b}) || eval.All(x, 0, 0, []api.Expr{number(1), b, number(1)})) {
			t.Errorf("%d: %+v is told", i, b)
		}
		for _, other := range []int{0, 1, -3} {
			for op := uint8(api.ExAdd); op <= lastOp; op++ {
				first, second := of(op, b, number(other)), of(op, number(other), b)
				if n := eval.Value(x, 0, 0, first); n != 0 {
					t.Errorf("%d: %d of what can't be told and %d = %d", i, op, other, n)
				}
				if n := eval.Value(x, 0, 0, second); op != api.ExNot && n != 0 {
					t.Errorf("%d: %d of %d and what can't be told = %d", i, op, other, n)
				}
				for _, e := range []api.Expr{of(api.ExNot, first), of(api.ExOr, number(1), first), of(api.ExOr, number(1), of(api.ExNot, first)), of(api.ExAdd, of(api.ExNot, of(api.ExNot, first)), number(1)), of(api.ExSame, first, number(0))} {
					if n := eval.Value(x, 0, 0, e); n != 0 {
						t.Errorf("%d: above %d = %d", i, op, n)
					}
				}
			}
		}
	}
}

// P8.1: parts beyond those that it is made of count for nothing, whatever they are.
func TestPartsBeyond(t *testing.T) {
	x := rows(t)
	for i, b := range append(bad(), number(0), number(7), nested(api.ExAdd, 40, false)) {
		for op := uint8(0); op <= lastOp; op++ {
			e := api.Expr{Op: op, N: 7}
			for n := range madeOf(op) {
				e.Args = append(e.Args, number(n+2))
			}
			want := eval.Value(x, 0, 0, e)
			if alone := [...]int{7, 300, 0, 1300, 5, -1, 6, 1, 0, 1, 1, 0}[op]; want != alone {
				t.Errorf("%d = %d; not %d", op, want, alone)
			}
			e.Args = append(e.Args, b)
			if n := eval.Value(x, 0, 0, e); n != want {
				t.Errorf("%d: %d with one part more = %d; not %d", i, op, n, want)
			}
			e.Args = append(e.Args, number(0), b, b)
			if n := eval.Value(x, 0, 0, of(api.ExAdd, e, number(0), b)); n != want {
				t.Errorf("%d: %d with more parts = %d; not %d", i, op, n, want)
			}
		}
	}
}

// What an expression is not made of is not asked: neither its number nor its side nor its cards.
func TestOtherFields(t *testing.T) {
	x := rows(t)
	for op := uint8(0); op <= lastOp; op++ {
		e := of(op, number(3), number(4))
		want := eval.Value(x, 0, 0, e)
		if op != api.ExNumber {
			e.N = 99
		}
		if op != api.ExLife {
			e.Side = 99
		}
		if op != api.ExCount {
			e.Sel = api.Sel{Side: 99, Zone: 99, Kind: 99}
		}
		if n := eval.Value(x, 0, 0, e); n != want {
			t.Errorf("%d = %d; not %d", op, n, want)
		}
	}
}
