package can_test

import (
	"slices"
	"testing"

	"joust/api"
	"joust/board"
	"joust/can"
)

// other is a kind of card that is none.
const other = api.Counter + 1

// at is a piece of the first kind that 0 has, in a zone, at the place 0, Up or not, there since an early turn.
func at(zone uint8, up bool) api.Piece { return api.Piece{Zone: zone, Up: up} }

// of is a piece of another kind, of a player.
func of(def int, who uint8, p api.Piece) api.Piece {
	p.Def, p.Owner, p.Has = def, who, who
	return p
}

// placed is a piece at a place of its zone.
func placed(place int, p api.Piece) api.Piece {
	p.At = place
	return p
}

// since is a piece that is there since a turn.
func since(turn int, p api.Piece) api.Piece {
	p.Since = turn
	return p
}

// card is a kind of card with effects.
func card(kind uint8, l ...api.Effect) api.Card { return api.Card{Kind: kind, Effects: l} }

// table is the third turn, which is 0's.
func table(t *testing.T, kinds []api.Card, l ...api.Piece) api.Table {
	t.Helper()
	x := api.Table{Kinds: kinds, Pieces: l, Life: [2]int{8000, 5000}, Turn: 3, Moment: 7}
	if !board.May(x) {
		t.Fatalf("no table may be so: %+v", l)
	}
	return x
}

// alone is a table of one piece, of a card of one effect.
func alone(t *testing.T, kind uint8, e api.Effect, p api.Piece) api.Table {
	t.Helper()
	return table(t, []api.Card{card(kind, e)}, p)
}

// swift is an effect of a unit that may be activated at any time.
func swift() api.Effect { return api.Effect{Mode: api.Swift} }

// inMain, open, and behind a link of a speed.
var inMain, open = api.Window{Main: true}, api.Window{}

func behind(speed uint8) api.Window {
	return api.Window{Links: []api.Link{{Who: 1, Speed: speed}}}
}

// P12.1: the chapter's example.
func TestExample(t *testing.T) {
	kinds := []api.Card{card(api.Spell, api.Effect{}), card(api.Trap, api.Effect{})}
	x := table(t, kinds, at(api.Hand, false), of(1, 1, at(api.Back, false)))
	x.Turn = 1
	linked := behind(1)
	linked.Main = true
	for i, c := range []struct{ is, want bool }{
		{can.May(x, 0, 0, 0, inMain), true},
		{can.May(x, 0, 0, 0, open), false},
		{can.May(x, 1, 1, 0, open), true},
		{can.May(x, 0, 0, 0, linked), false},
	} {
		if c.is != c.want {
			t.Errorf("%d: May", i)
		}
	}
	if spell, trap := can.Speed(x, 0, 0), can.Speed(x, 1, 0); spell != 1 || trap != 2 {
		t.Errorf("Speed = %d, %d", spell, trap)
	}
}

// P12.1: speeds, of each mode and each kind, and of those that are none.
func TestSpeed(t *testing.T) {
	plays := []uint8{api.Unit: 1, api.Spell: 1, api.Quick: 2, api.Trap: 2, api.Counter: 3}
	for kind := range 256 {
		for mode := range 256 {
			want := uint8(1)
			switch {
			case mode == api.Swift:
				want = 2
			case mode == api.Play && kind > api.Counter:
				want = 3
			case mode == api.Play:
				want = plays[kind]
			}
			for _, zone := range []uint8{api.Hand, api.Grave} {
				x := alone(t, uint8(kind), api.Effect{Mode: uint8(mode)}, at(zone, false))
				if is := can.Speed(x, 0, 0); is != want {
					t.Fatalf("Speed of the kind %d, the mode %d = %d", kind, mode, is)
				}
			}
		}
	}
}

// nothing is to be told of an effect.
func nothing(t *testing.T, what string, x api.Table, who uint8, id, effect int) {
	t.Helper()
	if can.Afford(x, who, id, effect) || can.May(x, who, id, effect, inMain) || can.Trigger(x, who, id, effect) {
		t.Errorf("%s: something is so of %d of %d, of player %d", what, effect, id, who)
	}
}

// works is a table of a unit with an effect at each place that may be activated, or come.
func works(t *testing.T) api.Table {
	t.Helper()
	kinds := []api.Card{card(api.Unit, swift(), api.Effect{Mode: api.Must}, api.Effect{Mode: api.Act})}
	token := api.Piece{Def: -1, Zone: api.Row, At: 1, Up: true}
	gone := api.Piece{Def: -1, Zone: api.Nowhere}
	return table(t, kinds, at(api.Row, true), token, gone)
}

// P12.1: of no player, no piece, a token, no such effect: 0, no.
func TestOfNothing(t *testing.T) {
	x := works(t)
	if !can.Afford(x, 0, 0, 0) || !can.May(x, 0, 0, 0, inMain) || !can.Trigger(x, 0, 0, 1) || can.Speed(x, 0, 0) != 2 {
		t.Fatal("it doesn't work")
	}
	far := []int{-1 << 63, -64, -8, -1, 8, 64, 1 << 32, 1<<63 - 1}
	for effect := range 3 {
		for who := 2; who < 256; who++ {
			nothing(t, "no player", x, uint8(who), 0, effect)
			if l := can.All(x, uint8(who), inMain); len(l) != 0 {
				t.Errorf("All of %d = %v", who, l)
			}
		}
		for _, id := range append(far, 3) {
			nothing(t, "no piece", x, 0, id, effect)
			if n := can.Speed(x, id, effect); n != 0 {
				t.Errorf("Speed of no piece, %d = %d", id, n)
			}
		}
		for _, id := range []int{1, 2} {
			nothing(t, "a token", x, 0, id, effect)
			if n := can.Speed(x, id, effect); n != 0 {
				t.Errorf("Speed of a token = %d", n)
			}
		}
	}
	for _, effect := range append(far, 3) {
		nothing(t, "no such effect", x, 0, 0, effect)
		if n := can.Speed(x, 0, effect); n != 0 {
			t.Errorf("Speed of %d = %d", effect, n)
		}
	}
}

// P12.1: of a table that may not be: 0, no, none.
func TestNoTable(t *testing.T) {
	for i, spoil := range []func(*api.Table){
		func(x *api.Table) { x.Turn = 0 },
		func(x *api.Table) { x.Player = 2 },
		func(x *api.Table) { x.Life[1] = -1 },
		func(x *api.Table) { x.Life[0] = api.MaxLife + 1 },
		func(x *api.Table) { x.Pieces[1].Def = 1 },
		func(x *api.Table) { x.Pieces[1].Def = -2 },
		func(x *api.Table) { x.Pieces[1].Has = 2 },
		func(x *api.Table) { x.Pieces[1].At = 0 },
		func(x *api.Table) { x.Kinds = nil },
		func(x *api.Table) { x.Pieces[0].Def = 1 << 62 },
		func(x *api.Table) { *x = api.Table{} },
	} {
		x := works(t)
		spoil(&x)
		for who := range uint8(3) {
			for effect := range 3 {
				nothing(t, "no table", x, who, 0, effect)
				if n := can.Speed(x, 0, effect); n != 0 {
					t.Errorf("%d: Speed = %d", i, n)
				}
			}
			if l := can.All(x, who, inMain); len(l) != 0 {
				t.Errorf("%d: All = %v", i, l)
			}
		}
	}
}

// P12.1: All tells them by pieces' numbers, not by places, then by effects; of the one who has them; Must no, of those that must, too.
func TestAllInOrder(t *testing.T) {
	plain := card(api.Unit, api.Effect{Mode: api.Act}, api.Effect{Mode: api.Must}, swift(), swift())
	kinds := []api.Card{plain, card(api.Spell, api.Effect{}), card(api.Unit)}
	taken := of(0, 1, placed(0, at(api.Row, true)))
	taken.Has = 0
	lost := placed(0, at(api.Row, true))
	lost.Has = 1
	used := placed(2, at(api.Row, true))
	used.Used = 4
	x := table(t, kinds,
		used,
		of(1, 0, at(api.Hand, false)),
		lost,
		of(2, 0, placed(3, at(api.Row, true))),
		taken,
		of(1, 0, placed(1, at(api.Hand, false))),
		placed(1, at(api.Row, false)))
	for i, c := range []struct {
		who  uint8
		w    api.Window
		want []api.Ready
	}{
		{0, inMain, []api.Ready{{Piece: 0}, {Piece: 0, Effect: 3}, {Piece: 1}, {Piece: 4}, {Piece: 4, Effect: 2}, {Piece: 4, Effect: 3}, {Piece: 5}}},
		{0, open, []api.Ready{{Piece: 0, Effect: 3}, {Piece: 4, Effect: 2}, {Piece: 4, Effect: 3}}},
		{1, inMain, []api.Ready{{Who: 1, Piece: 2, Effect: 2}, {Who: 1, Piece: 2, Effect: 3}}},
		{0, behind(3), nil},
	} {
		if l := can.All(x, c.who, c.w); !slices.Equal(l, c.want) {
			t.Errorf("%d: All = %v", i, l)
		}
	}
}
