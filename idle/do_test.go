package idle_test

import (
	"math"
	"reflect"
	"slices"
	"testing"

	"joust/api"
	"joust/board"
	"joust/idle"
)

// refused asks that an option can't be done, and that the table stays as it is.
func refused(t *testing.T, x api.Table, o api.Option) {
	t.Helper()
	if y, e := idle.Do(x, o); e != api.ErrArg || !board.Same(x, y) {
		t.Errorf("Do(%v) = %+v, %v", o, y.Pieces, e)
	}
}

// does asks which pieces are other ones behind an option, of either player; nothing else is.
func does(t *testing.T, what string, x api.Table, o api.Option, want map[int]api.Piece) {
	t.Helper()
	y := board.Copy(x)
	for id, p := range want {
		y.Pieces[id] = p
	}
	for _, pair := range [][2]api.Table{{x, y}, {other(x), other(y)}} {
		was := board.Copy(pair[0])
		is, e := idle.Do(pair[0], o)
		if e != api.OK || !board.Same(is, pair[1]) || !board.May(is) {
			t.Errorf("%s: Do(%v) = %+v, %v; not %+v", what, o, is, e, pair[1])
		}
		if !reflect.DeepEqual(pair[0], was) {
			t.Errorf("%s: Do(%v) changed what it was handed", what, o)
		}
	}
}

// shown is what lies open in Limbo, hidden what is set in Row, buried what is in a grave, since the third turn.
func shown(def int, who uint8) api.Piece {
	return api.Piece{Def: def, Owner: who, Has: who, Zone: api.Limbo, Up: true, Since: 3}
}

func hidden(def, at int) api.Piece {
	return api.Piece{Def: def, Zone: api.Row, At: at, Low: true, Since: 3}
}

func buried(def int, who uint8, at int) api.Piece {
	return api.Piece{Def: def, Owner: who, Has: who, Zone: api.Grave, At: at, Up: true, Since: 3}
}

// P16.1: a small unit comes from the hand to Limbo, Up, or to the first free place of Row, face down, Low; the hand comes up.
func TestSummonsDone(t *testing.T) {
	x := table(t, row(0, 0), row(0, 2), hand(pawn, 1), hand(rain, 0), hand(lord, 2), row(1, 1))
	x.Pieces[2].Attack, x.Pieces[2].Guard = 1200, 700
	up, down := shown(pawn, 0), hidden(pawn, 1)
	for _, p := range []*api.Piece{&up, &down} {
		p.Attack, p.Guard = 1200, 700
	}
	does(t, "summoned", x, option(api.OpSummon, 2, -1), map[int]api.Piece{2: up, 4: hand(lord, 1)})
	does(t, "set", x, option(api.OpSet, 2, -1), map[int]api.Piece{2: down, 4: hand(lord, 1)})
}

// P16.1: what is given up for a great unit goes to its owner's grave; a token is Nowhere.
func TestGivenUpDone(t *testing.T) {
	spent := row(0, 3)
	spent.Used, spent.Struck, spent.Turned, spent.Boost, spent.Low = 3, true, true, -5, true
	x := table(t, hand(lord, 0), row(0, 0), spent, of(mage, taken(row(0, 1))), of(-1, row(0, 2)), in(rain, 0, api.Grave, 0), in(rain, 1, api.Grave, 0), hand(pawn, 1))
	for _, c := range []struct {
		given int
		gone  api.Piece
		at    int
	}{
		{1, buried(pawn, 0, 1), 0}, {2, buried(pawn, 0, 1), 3}, {3, buried(mage, 1, 1), 1}, {4, since(3, in(-1, 0, api.Nowhere, 0)), 2},
	} {
		set := hidden(lord, 4)
		if c.at < 4 {
			set.At = c.at
		}
		does(t, "summoned", x, option(api.OpSummon, 0, c.given), map[int]api.Piece{0: shown(lord, 0), c.given: c.gone, 7: hand(pawn, 0)})
		does(t, "set", x, option(api.OpSet, 0, c.given), map[int]api.Piece{0: set, c.given: c.gone, 7: hand(pawn, 0)})
	}
}

// P16.1: in a full Row a great unit is set where the one was that is given up for it.
func TestSetInFullRow(t *testing.T) {
	x := table(t, append(full(0), hand(lord, 0), hand(pawn, 1))...)
	for given := range api.Slots {
		does(t, "set", x, option(api.OpSet, 5, given), map[int]api.Piece{5: hidden(lord, api.Slots-1-given), given: buried(pawn, 0, 0), 6: hand(pawn, 0)})
		does(t, "summoned", x, option(api.OpSummon, 5, given), map[int]api.Piece{5: shown(lord, 0), given: buried(pawn, 0, 0), 6: hand(pawn, 0)})
	}
	refused(t, x, option(api.OpSet, 6, -1))
	refused(t, x, option(api.OpSummon, 6, 0))
}

// P16.1: a Limbo in which another one is has no room: the unit stays in hand.
func TestFullLimbo(t *testing.T) {
	for who := range uint8(2) {
		x := table(t, in(pawn, who, api.Limbo, 0), hand(pawn, 0), hand(lord, 1), row(0, 1))
		does(t, "summoned", x, option(api.OpSummon, 1, -1), nil)
		does(t, "one given up", x, option(api.OpSummon, 2, 3), map[int]api.Piece{3: buried(pawn, 0, 0)})
		does(t, "set", x, option(api.OpSet, 1, -1), map[int]api.Piece{1: hidden(pawn, 0), 2: hand(lord, 0)})
	}
}

// P16.1: what is laid goes to the first free place of Back, face down.
func TestLaysDone(t *testing.T) {
	x := table(t, hand(rain, 4), hand(wind, 3), hand(net, 2), hand(stop, 1), hand(odd, 0), in(net, 0, api.Back, 0), in(net, 0, api.Back, 1), in(net, 0, api.Back, 3), in(net, 1, api.Back, 2))
	for id := range 5 {
		want := map[int]api.Piece{id: since(3, in(x.Pieces[id].Def, 0, api.Back, 2))}
		for behind := range id { // the ones behind it come up
			want[behind] = hand(x.Pieces[behind].Def, 3-behind)
		}
		does(t, "laid", x, lay(id), want)
	}
}

// P16.1: a piece that is face down is Up, and not Low; else Low is turned; it is Turned, and all else stays.
func TestTurnsDone(t *testing.T) {
	for _, up := range []bool{false, true} {
		for _, low := range []bool{false, true} {
			p := api.Piece{Def: mage, Attack: 5, Guard: 6, Zone: api.Row, At: 2, Up: up, Low: low, Since: 2, Used: 5, Boost: -7}
			for _, p := range []api.Piece{p, taken(p), of(-1, p)} {
				q := p
				q.Up, q.Low, q.Turned = true, up && !low, true
				does(t, "turned", table(t, row(0, 0), p, row(1, 2)), turn(1), map[int]api.Piece{1: q})
			}
		}
	}
}

// P16.1: what is turned isn't turned once more, nor what was set this turn.
func TestOnce(t *testing.T) {
	x := table(t, since(2, row(0, 0)), hand(pawn, 0))
	y, _ := idle.Do(x, turn(0))
	refused(t, y, turn(0))
	y, _ = idle.Do(x, option(api.OpSet, 1, -1))
	refused(t, y, turn(1))
	refused(t, y, option(api.OpSet, 1, -1))
	if l := idle.Options(y, true, true); !slices.Equal(l, []api.Option{turn(0), end}) {
		t.Errorf("Options = %v", l)
	}
}

// P16.1: nothing else is done: no option of another kind, though it may be decided; none with another piece or number.
func TestNoOption(t *testing.T) {
	x, all := whole(t)
	may := slices.Concat(all...)
	numbers := []int{math.MinInt, -2, math.MaxInt}
	for n := -1; n <= len(x.Pieces); n++ {
		numbers = append(numbers, n)
	}
	done := 0
	for do := range 256 {
		for _, id := range numbers {
			for _, arg := range numbers {
				o := option(uint8(do), id, arg)
				if slices.Contains([]uint8{api.OpSummon, api.OpSet, api.OpLay, api.OpTurn}, o.Do) && slices.Contains(may, o) {
					if _, e := idle.Do(x, o); e != api.OK {
						t.Errorf("Do(%v) = %v", o, e)
					}
					done++
				} else {
					refused(t, x, o)
				}
			}
		}
	}
	if done != 14 {
		t.Errorf("%d options were done", done)
	}
}

// P16.1: Do asks for no summon of this turn; the turn it is does not matter to what is summoned.
func TestDoInAnyTurn(t *testing.T) {
	x := table(t, hand(pawn, 0), in(pawn, 0, api.Limbo, 0))
	for _, x.Turn = range []int{1, 2, math.MaxInt} {
		want := hidden(pawn, 0)
		want.Since = x.Turn
		does(t, "set", x, option(api.OpSet, 0, -1), map[int]api.Piece{0: want})
	}
}
