package chain_test

import (
	"math"
	"reflect"
	"slices"
	"testing"

	"joust/api"
	"joust/board"
	"joust/chain"
)

// other is a kind of card that is none.
const other = api.Counter + 1

// at is a piece of a kind of card, of a player, in a zone, at a place, face down.
func at(def int, who, zone uint8, place int) api.Piece {
	return api.Piece{Def: def, Owner: who, Has: who, Zone: zone, At: place}
}

// up is a piece Up.
func up(p api.Piece) api.Piece {
	p.Up = true
	return p
}

// taken is a piece that the other one has.
func taken(p api.Piece) api.Piece {
	p.Has = 1 - p.Owner
	return p
}

// card is a kind of card with effects.
func card(kind uint8, l ...api.Effect) api.Card { return api.Card{Kind: kind, Effects: l} }

func num(n int) api.Expr { return api.Expr{N: n} }

// hurt is a step that takes n of the other one's life.
func hurt(n int) api.Step { return api.Step{Do: api.StDamage, Side: api.Theirs, N: num(n)} }

// heal is a step that gives n to one's own life.
func heal(n int) api.Step { return api.Step{Do: api.StHeal, N: num(n)} }

func negate() api.Step { return api.Step{Do: api.StNegate} }

// play is one that does some steps.
func play(l ...api.Step) api.Effect { return api.Effect{Steps: l} }

// upon is a play upon something.
func upon(ev uint8, l ...api.Step) api.Effect { return api.Effect{Ev: ev, Side: api.Theirs, Steps: l} }

// table is the fourth turn, which is 0's.
func table(t *testing.T, kinds []api.Card, l ...api.Piece) api.Table {
	t.Helper()
	x := api.Table{Kinds: kinds, Pieces: l, Life: [2]int{8000, 5000}, Turn: 4, Moment: 7, Events: []api.Event{{Ev: api.EvTry, Moment: 7, Piece: 0}}}
	if !board.May(x) {
		t.Fatalf("no table may be so: %+v", l)
	}
	return x
}

// in are the pieces that a player has in a zone, in order.
func in(t *testing.T, what string, x api.Table, who, zone uint8, want ...int) {
	t.Helper()
	if l := board.In(x, who, zone); !slices.Equal(l, want) {
		t.Errorf("%s: of %d in %d are %v; not %v", what, who, zone, l, want)
	}
}

// begin is Begin of what may be begun.
func begin(t *testing.T, x api.Table, who uint8, id, effect int, picks ...int) (api.Table, api.Link) {
	t.Helper()
	y, l, e := chain.Begin(x, who, id, effect, picks)
	if e != api.OK || !board.May(y) {
		t.Fatalf("Begin(%d, %d, %d, %v): %d", who, id, effect, picks, e)
	}
	if l.Who != who || l.Piece != id || l.Effect != effect || !slices.Equal(l.Picks, picks) || l.Dead {
		t.Errorf("Begin(%d, %d, %d, %v): %+v", who, id, effect, picks, l)
	}
	return y, l
}

// The chapter's example.
func TestExample(t *testing.T) {
	kinds := []api.Card{card(api.Spell, play(hurt(500))), card(api.Counter, upon(api.EvLink, negate()))}
	x := table(t, kinds, at(0, 0, api.Hand, 0), at(1, 1, api.Back, 0))
	x.Life = [2]int{8000, 8000}
	x, spell := begin(t, x, 0, 0, 0)
	if x.Pieces[0].Zone != api.Back {
		t.Errorf("the Spell: %+v", x.Pieces[0])
	}
	if y, negated := chain.End(x, []api.Link{spell}); y.Life[1] != 7500 || y.Pieces[0].Zone != api.Grave || negated {
		t.Errorf("End: %v, %+v, %v", y.Life, y.Pieces[0], negated)
	}
	x, counter := begin(t, x, 1, 1, 0)
	if y, negated := chain.End(x, []api.Link{spell, counter}); y.Life[1] != 8000 || negated {
		t.Errorf("End: %v, %v", y.Life, negated)
	}
}

// P14.1: Effect is one of a piece, as its kind has it, wherever the piece is, whoever has it.
func TestEffect(t *testing.T) {
	sun, moon := play(hurt(1), heal(2)), api.Effect{Mode: api.Aura, Pay: 3, Cond: []api.Expr{num(4)}}
	kinds := []api.Card{card(api.Unit, sun, moon), card(api.Trap, moon), card(api.Spell)}
	token := api.Piece{Def: -1, Zone: api.Row, At: 1, Up: true}
	x := table(t, kinds, at(0, 0, api.Deck, 0), taken(at(1, 1, api.Back, 0)), token, at(2, 0, api.Hand, 0))
	for i, c := range []struct {
		id, effect int
		want       api.Effect
		ok         bool
	}{
		{0, 0, sun, true}, {0, 1, moon, true}, {1, 0, moon, true},
		{0, 2, api.Effect{}, false}, {0, -1, api.Effect{}, false}, {0, math.MaxInt, api.Effect{}, false}, {0, math.MinInt, api.Effect{}, false},
		{1, 1, api.Effect{}, false}, {3, 0, api.Effect{}, false}, {2, 0, api.Effect{}, false}, {2, -1, api.Effect{}, false},
		{4, 0, api.Effect{}, false}, {-1, 0, api.Effect{}, false}, {math.MaxInt, 0, api.Effect{}, false}, {math.MinInt, 0, api.Effect{}, false},
	} {
		if e, ok := chain.Effect(x, c.id, c.effect); ok != c.ok || !reflect.DeepEqual(e, c.want) {
			t.Errorf("%d: Effect(%d, %d) = %+v, %v", i, c.id, c.effect, e, ok)
		}
	}
}

// P14.1: Effect asks for the piece and its kind alone.
func TestEffectOfNoTable(t *testing.T) {
	kinds := []api.Card{card(api.Trap, play(hurt(1)))}
	x := api.Table{Kinds: kinds, Pieces: []api.Piece{at(0, 0, api.Row, 9), at(1, 0, api.Row, 0), at(-2, 0, api.Row, 0), at(math.MinInt, 0, 0, 0), at(math.MaxInt, 0, 0, 0)}}
	for id, want := range []bool{true, false, false, false, false} {
		if e, ok := chain.Effect(x, id, 0); ok != want || len(e.Steps) > 0 != want {
			t.Errorf("Effect(%d) = %+v, %v", id, e, ok)
		}
	}
	if e, ok := chain.Effect(api.Table{}, 0, 0); ok || !reflect.DeepEqual(e, api.Effect{}) {
		t.Errorf("Effect = %+v, %v", e, ok)
	}
}
