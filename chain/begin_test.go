package chain_test

import (
	"math"
	"reflect"
	"testing"

	"joust/api"
	"joust/board"
	"joust/chain"
)

// behind is a table behind Begin that differs from the one ahead of it in nothing but some fields.
func behind(t *testing.T, what string, was, is api.Table, change func(x *api.Table)) {
	t.Helper()
	want := board.Copy(was)
	change(&want)
	if !board.Same(is, want) {
		t.Errorf("%s:\n%+v; not\n%+v", what, is, want)
	}
}

// P14.1: what is no unit goes from the hand to Back, Up, whatever the effect is; all behind it comes up.
func TestFromTheHand(t *testing.T) {
	for kind := range uint8(other + 1) {
		for mode := range uint8(api.Aura) {
			kinds := []api.Card{card(kind, api.Effect{Mode: mode}), card(api.Trap)}
			x := table(t, kinds, at(1, 1, api.Hand, 0), at(0, 1, api.Hand, 1), at(1, 1, api.Hand, 2), at(1, 1, api.Back, 0), at(1, 1, api.Back, 2))
			x.Pieces[1].Since, x.Pieces[1].Used = 1, 2
			y, _ := begin(t, x, 1, 1, 0)
			behind(t, "from the hand", x, y, func(z *api.Table) {
				if kind == api.Unit {
					z.Pieces[1].Used = 3
					return
				}
				z.Pieces[1] = up(at(0, 1, api.Back, 1))
				z.Pieces[1].Since, z.Pieces[2].At = 4, 1
			})
		}
	}
}

// P14.1: what is no unit is turned Up in Back, and stays as it is else; elsewhere it stays as it is.
func TestTurnedUp(t *testing.T) {
	for kind := range uint8(other + 1) {
		for _, zone := range []uint8{api.Deck, api.Row, api.Back, api.Grave, api.Exile, api.Limbo} {
			if kind == api.Unit && zone == api.Back || kind != api.Unit && (zone == api.Row || zone == api.Limbo) {
				continue
			}
			kinds := []api.Card{card(kind, api.Effect{Mode: api.Must})}
			p := at(0, 0, zone, 0)
			p.Since, p.Used, p.Boost, p.Struck, p.Turned, p.Low = 1, 6, -70, true, true, true
			for _, is := range []api.Piece{p, up(p)} {
				x := table(t, kinds, is)
				y, _ := begin(t, x, 0, 0, 0)
				behind(t, "turned up", x, y, func(z *api.Table) {
					z.Pieces[0].Up = is.Up || zone == api.Back
					if kind == api.Unit {
						z.Pieces[0].Used = 7
					}
				})
			}
		}
	}
}

// P14.1: of a unit the bit of the effect is set in Used, so far as there is one.
func TestUsed(t *testing.T) {
	effects := make([]api.Effect, 70)
	for i := range effects {
		effects[i].Mode = uint8(i % api.Aura)
	}
	for effect := range effects {
		x := table(t, []api.Card{card(api.Unit, effects...)}, up(at(0, 0, api.Row, 0)), at(0, 0, api.Hand, 0))
		x.Pieces[0].Used = 0xff
		if effect < 8 {
			x.Pieces[0].Used = 0xff - 1<<effect
		}
		y, _ := begin(t, x, 0, 0, effect)
		behind(t, "used", x, y, func(z *api.Table) { z.Pieces[0].Used = 0xff })
		y, _ = begin(t, x, 0, 1, effect)
		behind(t, "used in the hand", x, y, func(z *api.Table) {
			if effect < 8 {
				z.Pieces[1].Used = 1 << effect
			}
		})
	}
}

// P14.1: it pays; below 0 nothing. No event happens, no moment passes.
func TestPays(t *testing.T) {
	for _, pay := range []int{math.MinInt, -1, 0, 1, 300, 4999} {
		x := table(t, []api.Card{card(api.Trap, api.Effect{Pay: pay})}, at(0, 1, api.Back, 3))
		y, _ := begin(t, x, 1, 0, 0)
		behind(t, "pays", x, y, func(z *api.Table) {
			z.Pieces[0].Up = true
			z.Life[1] -= max(pay, 0)
		})
	}
}

// P14.1: it drops the last cards of the hand, one by one, not the piece itself; below 0 none.
func TestDrops(t *testing.T) {
	for _, kind := range []uint8{api.Unit, api.Spell} {
		for self := range 4 {
			for _, n := range []int{math.MinInt, -1, 0, 1, 2, 3} {
				kinds := []api.Card{card(kind, api.Effect{Discard: n}), card(api.Trap)}
				x := table(t, kinds, at(1, 0, api.Hand, 2), at(1, 0, api.Hand, 0), at(1, 0, api.Hand, 3), at(1, 0, api.Hand, 1), at(1, 0, api.Grave, 0), at(1, 1, api.Hand, 0))
				hand := []int{1, 3, 0, 2}
				x.Pieces[hand[self]].Def = 0
				y, _ := begin(t, x, 0, hand[self], 0)
				rest, grave := []int{}, []int{4}
				for place := range hand {
					if place != self {
						rest = append(rest, hand[place])
					}
				}
				for range max(n, 0) {
					grave = append(grave, rest[len(rest)-1])
					rest = rest[:len(rest)-1]
				}
				if kind == api.Unit {
					rest = with(rest, hand, self)
				}
				in(t, "drops", y, 0, api.Hand, rest...)
				in(t, "drops", y, 0, api.Grave, grave...)
				in(t, "drops", y, 1, api.Hand, 5)
			}
		}
	}
}

// with is rest, with what stands in hand at a place where it stood.
func with(rest, hand []int, self int) []int {
	var l []int
	for place, id := range hand {
		kept := place == self
		for _, r := range rest {
			kept = kept || r == id
		}
		if kept {
			l = append(l, id)
		}
	}
	return l
}

// P14.1: it spends itself behind all else that it costs, to its owner's grave, wherever it is.
func TestSpends(t *testing.T) {
	cost := api.Effect{Mode: api.Must, Tribute: true, Discard: 1, Pay: 10}
	for _, c := range []struct {
		kind uint8
		p    api.Piece
	}{
		{api.Unit, up(at(0, 0, api.Row, 4))}, {api.Unit, taken(up(at(0, 1, api.Row, 4)))}, {api.Unit, at(0, 0, api.Hand, 1)}, {api.Unit, up(at(0, 0, api.Grave, 0))},
		{api.Spell, at(0, 0, api.Hand, 1)}, {api.Trap, at(0, 0, api.Back, 1)}, {other, taken(at(0, 1, api.Back, 1))},
	} {
		place := 1
		if c.p.Zone == api.Grave {
			place = 0
		}
		l := []api.Piece{c.p, at(1, 0, api.Hand, 0), up(at(1, 0, api.Grave, 1-place)), up(at(1, 1, api.Grave, 0))}
		x := table(t, []api.Card{card(c.kind, cost), card(api.Trap)}, l...)
		y, _ := begin(t, x, 0, 0, 0)
		if c.p.Owner == 0 {
			in(t, "spends", y, 0, api.Grave, 2, 1, 0)
			in(t, "spends", y, 1, api.Grave, 3)
		} else {
			in(t, "spends", y, 0, api.Grave, 2, 1)
			in(t, "spends", y, 1, api.Grave, 3, 0)
		}
		if p := y.Pieces[0]; y.Life != [2]int{7990, 5000} || p.Used != 0 || !p.Up || p.Since != 4 || p.Has != c.p.Owner {
			t.Errorf("spends: %v, %+v", y.Life, p)
		}
	}
}

// P14.1: the link tells how fast the effect is.
func TestLinkSpeed(t *testing.T) {
	speeds := []uint8{api.Unit: 1, api.Spell: 1, api.Quick: 2, api.Trap: 2, api.Counter: 3, other: 3}
	for kind, speed := range speeds {
		for mode, want := range []uint8{api.Play: speed, api.Act: 1, api.Swift: 2, api.When: 1, api.If: 1, api.Must: 1} {
			x := table(t, []api.Card{card(uint8(kind), api.Effect{Mode: uint8(mode), Tribute: true})}, at(0, 0, api.Hand, 0))
			if _, l := begin(t, x, 0, 0, 0); l.Speed != want {
				t.Errorf("of the mode %d, the kind %d: %+v", mode, kind, l)
			}
		}
	}
}

// P14.1: the link tells what was picked, in that order, though it went elsewhere as a cost.
func TestLinkPicks(t *testing.T) {
	e := api.Effect{Pick: 2, Sel: api.Sel{Side: api.Any, Zone: api.Grave}}
	x := table(t, []api.Card{card(api.Trap, e)}, at(0, 0, api.Back, 0), up(at(0, 0, api.Grave, 0)), up(at(0, 1, api.Grave, 0)), up(at(0, 1, api.Grave, 1)))
	for _, picks := range [][]int{{1, 2}, {2, 1}, {3, 1}, {3, 2}} {
		begin(t, x, 0, 0, 0, picks...)
	}
	e.Sel.Zone, e.Sel.Side, e.Discard = api.Hand, api.Mine, 2
	x = table(t, []api.Card{card(api.Trap, e)}, at(0, 0, api.Back, 0), at(0, 0, api.Hand, 0), at(0, 0, api.Hand, 1))
	y, _ := begin(t, x, 0, 0, 0, 2, 1)
	in(t, "dropped", y, 0, api.Grave, 2, 1)
}

// refused is Begin of what may not be begun: the table as it was, of its own memory, no link.
func refused(t *testing.T, what string, x api.Table, who uint8, id, effect int, picks []int, want api.Errno) {
	t.Helper()
	y, l, e := chain.Begin(x, who, id, effect, picks)
	if e != want || !board.Same(x, y) || !reflect.DeepEqual(l, api.Link{}) {
		t.Errorf("%s: Begin(%d, %d, %d, %v) = %+v, %d; not %d", what, who, id, effect, picks, l, e, want)
	}
	if len(x.Pieces) > 0 && &x.Pieces[0] == &y.Pieces[0] {
		t.Errorf("%s: the answer shares memory", what)
	}
}

// hand is a Spell of 0 that picks one of the graves, drops one card and pays, and a unit that 1 took from 0, with an act.
func hand(t *testing.T) api.Table {
	spell := api.Effect{Pick: 1, Sel: api.Sel{Side: api.Any, Zone: api.Grave}, Pay: 7999, Discard: 1, Cond: []api.Expr{num(1)}}
	kinds := []api.Card{card(api.Spell, spell), card(api.Unit, api.Effect{Mode: api.Act}, api.Effect{Mode: api.Aura}, api.Effect{Mode: api.Aura + 1}, api.Effect{Mode: math.MaxUint8})}
	return table(t, kinds, at(0, 0, api.Hand, 0), taken(up(at(1, 0, api.Row, 2))), at(1, 0, api.Hand, 1), up(at(1, 1, api.Grave, 0)), api.Piece{Def: -1, Zone: api.Row, At: 0, Up: true})
}

// P14.1: ErrArg of no player, of no such effect, of an aura, of a mode that is none.
func TestErrArg(t *testing.T) {
	x := hand(t)
	begin(t, x, 0, 0, 0, 3)
	begin(t, x, 1, 1, 0)
	for who := 2; who < 256; who++ {
		refused(t, "no player", x, uint8(who), 0, 0, []int{3}, api.ErrArg)
	}
	for _, id := range []int{math.MinInt, -1, 4, 5, 64, math.MaxInt} {
		refused(t, "no piece, a token", x, 0, id, 0, []int{3}, api.ErrArg)
	}
	for _, effect := range []int{math.MinInt, -1, 1, 8, 64, math.MaxInt} {
		refused(t, "no effect", x, 0, 0, effect, []int{3}, api.ErrArg)
	}
	for effect := 1; effect < 5; effect++ {
		refused(t, "aura, none", x, 1, 1, effect, nil, api.ErrArg)
		refused(t, "aura, none, not whose", x, 0, 1, effect, []int{7}, api.ErrArg)
	}
}

// P14.1: ErrArg of a table that may not be, ahead of all else.
func TestErrArgOfNoTable(t *testing.T) {
	for _, spoil := range []func(x *api.Table){
		func(x *api.Table) { x.Turn = 0 },
		func(x *api.Table) { x.Player = 2 },
		func(x *api.Table) { x.Life[1] = -1 },
		func(x *api.Table) { x.Life[0] = api.MaxLife + 1 },
		func(x *api.Table) { x.Pieces[3].Def = 2 },
		func(x *api.Table) { x.Pieces[3].At = 1 },
		func(x *api.Table) { x.Pieces[0].Def = -2 },
		func(x *api.Table) { x.Pieces[0].Zone = api.Row },
		func(x *api.Table) { x.Pieces[0].Zone = api.Nowhere + 1 },
		func(x *api.Table) { x.Kinds = nil },
		func(x *api.Table) { *x = api.Table{} },
	} {
		x := hand(t)
		spoil(&x)
		for who := range uint8(3) {
			refused(t, "no table", x, who, 0, 0, []int{3}, api.ErrArg)
			refused(t, "no table", x, who, 1, 0, nil, api.ErrArg)
			refused(t, "no table", x, who, 1, 0, []int{3}, api.ErrArg)
		}
	}
}

// P14.1: ErrRule, if it can't be afforded, the piece is not who's, or the picks may not be; also where Back is full.
func TestErrRule(t *testing.T) {
	for _, c := range []struct {
		what  string
		spoil func(x *api.Table)
		who   uint8
		id    int
		picks []int
	}{
		{"needs", func(x *api.Table) { x.Kinds[0].Effects[0].Cond = []api.Expr{num(1), num(0)} }, 0, 0, []int{3}},
		{"pays", func(x *api.Table) { x.Life[0] = 7999 }, 0, 0, []int{3}},
		{"drops", func(x *api.Table) { x.Kinds[0].Effects[0].Discard = 2 }, 0, 0, []int{3}},
		{"used", func(x *api.Table) { x.Pieces[1].Used = 1 }, 1, 1, nil},
		{"too few to pick", func(x *api.Table) { x.Kinds[0].Effects[0].Pick = 2 }, 0, 0, []int{3, 3}},
		{"not whose", nil, 1, 0, []int{3}},
		{"its owner", nil, 0, 1, nil},
		{"no picks", nil, 0, 0, nil},
		{"too many", nil, 0, 0, []int{3, 3}},
		{"itself", nil, 0, 0, []int{0}},
		{"elsewhere", nil, 0, 0, []int{1}},
		{"no piece", nil, 0, 0, []int{-1}},
		{"picks of none", nil, 1, 1, []int{3}},
		{"picks of a Pick below 0", func(x *api.Table) { x.Kinds[1].Effects[0].Pick = -1 }, 1, 1, []int{3}},
	} {
		for _, full := range []bool{false, true} {
			x := hand(t)
			if c.spoil != nil {
				c.spoil(&x)
			}
			if full {
				x = filled(x, 0, api.Slots)
			}
			refused(t, c.what, x, c.who, c.id, 0, c.picks, api.ErrRule)
		}
	}
}

// filled is a table with n Spells in Back of a player.
func filled(x api.Table, who uint8, n int) api.Table {
	for place := range n {
		x.Pieces = append(x.Pieces, at(0, who, api.Back, place))
	}
	return x
}

// P14.1: ErrFull of what is no unit, from the hand, without a free place in the own Back.
func TestErrFull(t *testing.T) {
	for kind := range uint8(other + 1) {
		kinds := []api.Card{card(api.Trap), card(kind, api.Effect{Tribute: true}), card(api.Trap, api.Effect{})}
		x := filled(filled(table(t, kinds, at(1, 1, api.Hand, 0)), 1, api.Slots-1), 0, api.Slots)
		begin(t, x, 1, 0, 0)
		x.Pieces = append(x.Pieces, at(2, 1, api.Back, api.Slots-1))
		begin(t, x, 1, len(x.Pieces)-1, 0)
		if kind == api.Unit {
			begin(t, x, 1, 0, 0)
		} else {
			refused(t, "full", x, 1, 0, 0, nil, api.ErrFull)
		}
	}
}
