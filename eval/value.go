package eval

import (
	"joust/api"
	"joust/might"
)

// value is what an expression that may be so deep comes to, of a table that may be, for a player; and whether it can be told. All parts are told, whatever the first one comes to, as one that can't be told spoils the whole.
func value(t api.Table, who uint8, id int, x api.Expr, deep int) (int, bool) {
	count := partsOf(x.Op)
	if deep == 0 || len(x.Args) < count {
		return 0, false
	}
	var parts [2]int
	for i, part := range x.Args[:count] {
		n, ok := value(t, who, id, part, deep-1)
		if !ok {
			return 0, false
		}
		parts[i] = n
	}
	first, second := parts[0], parts[1]
	n := 0
	switch x.Op {
	case api.ExNumber:
		n = x.N
	case api.ExLife:
		if x.Side > api.Self {
			return 0, false
		}
		n = life(t, who, x.Side)
	case api.ExCount:
		n = len(Count(t, who, id, x.Sel))
	case api.ExAttack:
		n = might.Attack(t, id)
	case api.ExSub:
		second = -second
		fallthrough
	case api.ExAdd:
		n = first + second
	case api.ExMul:
		n = first * second
	case api.ExLess:
		n = oneIf(first < second)
	case api.ExSame:
		n = oneIf(first == second)
	case api.ExAnd:
		n = oneIf(first != 0 && second != 0)
	case api.ExOr:
		n = oneIf(first != 0 || second != 0)
	case api.ExNot:
		n = oneIf(first == 0)
	default:
		return 0, false
	}
	return bounded(n), true
}

// partsOf is how many parts an expression is made of.
func partsOf(op uint8) int {
	switch op {
	case api.ExAdd, api.ExSub, api.ExMul, api.ExLess, api.ExSame, api.ExAnd, api.ExOr:
		return 2
	case api.ExNot:
		return 1
	}
	return 0
}

// life is that of a side that there is.
func life(t api.Table, who, side uint8) int {
	switch side {
	case api.Theirs:
		return t.Life[other(who)]
	case api.Any:
		return t.Life[who] + t.Life[other(who)]
	}
	return t.Life[who]
}

func oneIf(so bool) int {
	if so {
		return 1
	}
	return 0
}

func bounded(n int) int { return max(-api.MaxLife, min(n, api.MaxLife)) }
