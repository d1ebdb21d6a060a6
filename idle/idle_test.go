package idle_test

import (
	"slices"
	"testing"

	"joust/api"
	"joust/board"
	"joust/idle"
)

// The places of pool's kinds.
const (
	pawn = iota
	lord
	rain
	wind
	net
	stop
	odd
	mage
	kinds
)

// pool is a unit of level 4, one of level 5, one of each other kind, a kind of which nobody heard, and a unit with effects.
func pool() []api.Card {
	return []api.Card{
		{Name: "pawn", Level: 4},
		{Name: "lord", Level: 5},
		{Name: "rain", Kind: api.Spell, Effects: []api.Effect{{}}},
		{Name: "wind", Kind: api.Quick, Effects: []api.Effect{{}}},
		{Name: "net", Kind: api.Trap, Effects: []api.Effect{{}}},
		{Name: "stop", Kind: api.Counter, Effects: []api.Effect{{}}},
		{Name: "odd", Kind: api.Counter + 1, Effects: []api.Effect{{}}},
		{Name: "mage", Level: 1, Effects: []api.Effect{{Mode: api.Act}, {Mode: api.When, Ev: api.EvSummon}, {Mode: api.Swift}, {Mode: api.Aura}}},
	}
}

// in is a piece of a kind, of a player, in a zone, at a place, face down.
func in(def int, who, zone uint8, at int) api.Piece {
	return api.Piece{Def: def, Owner: who, Has: who, Zone: zone, At: at}
}

// row is a pawn in Row, Up, that may not be turned.
func row(who uint8, at int) api.Piece {
	return api.Piece{Owner: who, Has: who, Zone: api.Row, At: at, Up: true, Since: 3}
}

// hand is a card of 0's hand.
func hand(def, at int) api.Piece { return in(def, 0, api.Hand, at) }

// since is a piece that is there since a turn.
func since(turn int, p api.Piece) api.Piece {
	p.Since = turn
	return p
}

// taken is a piece that the other one owns.
func taken(p api.Piece) api.Piece {
	p.Owner = 1 - p.Has
	return p
}

// of is a piece of another kind.
func of(def int, p api.Piece) api.Piece {
	p.Def = def
	return p
}

// table is these pieces, by numbers, in the third turn, which is 0's.
func table(t *testing.T, l ...api.Piece) api.Table {
	t.Helper()
	x := api.Table{Kinds: pool(), Pieces: l, Life: [2]int{8000, 5000}, Turn: 3, Moment: 7}
	if !board.May(x) {
		t.Fatalf("no table may be so: %+v", l)
	}
	return x
}

// other is the same table, with the players exchanged.
func other(x api.Table) api.Table {
	x = board.Copy(x)
	x.Player = 1 - x.Player
	x.Life[0], x.Life[1] = x.Life[1], x.Life[0]
	for i := range x.Pieces {
		p := &x.Pieces[i]
		p.Has, p.Owner = 1-p.Has, 1-p.Owner
	}
	return x
}

func option(do uint8, id, arg int) api.Option { return api.Option{Do: do, Piece: id, Arg: arg} }

func summon(id, given int) []api.Option {
	return []api.Option{option(api.OpSummon, id, given), option(api.OpSet, id, given)}
}

func lay(id int) api.Option { return option(api.OpLay, id, -1) }

func play(id, effect int) api.Option { return option(api.OpPlay, id, effect) }

func turn(id int) api.Option { return option(api.OpTurn, id, -1) }

var battle, end = option(api.OpBattle, -1, -1), option(api.OpEnd, -1, -1)

// offers asks for the options ahead of the battle and the end, of either player.
func offers(t *testing.T, what string, x api.Table, want ...api.Option) {
	t.Helper()
	want = append(slices.Clone(want), battle, end)
	for _, x := range []api.Table{x, other(x)} {
		if l := idle.Options(x, false, false); !slices.Equal(l, want) {
			t.Errorf("%s: Options of %d = %v; not %v", what, x.Player, l, want)
		}
	}
}

// doings are what options do.
func doings(l []api.Option) []uint8 {
	var d []uint8
	for _, o := range l {
		d = append(d, o.Do)
	}
	return d
}

// P16.1: the chapter's example.
func TestExample(t *testing.T) {
	x := table(t, hand(pawn, 0), hand(rain, 1))
	x.Turn = 1
	l := idle.Options(x, false, false)
	if !slices.Equal(doings(l), []uint8{api.OpSummon, api.OpSet, api.OpLay, api.OpPlay, api.OpEnd}) {
		t.Fatalf("Options(no, no) = %v", l)
	}
	if l := idle.Options(x, true, false); !slices.Equal(doings(l), []uint8{api.OpLay, api.OpPlay, api.OpEnd}) {
		t.Errorf("Options(yes, no) = %v", l)
	}
	if y, e := idle.Do(x, l[0]); e != api.OK || y.Pieces[0].Zone != api.Limbo {
		t.Errorf("Do(the first one) = %v, %v", y.Pieces, e)
	}
}

// whole is a table with options of all sections: its pieces do not lie by their numbers.
func whole(t *testing.T) (api.Table, [][]api.Option) {
	x := table(t,
		of(mage, since(2, row(0, 4))), hand(lord, 4), hand(net, 3), hand(pawn, 2), hand(rain, 1), hand(lord, 0),
		since(1, row(0, 1)), since(1, row(1, 0)), in(rain, 0, api.Back, 2), in(pawn, 1, api.Hand, 0), in(net, 1, api.Hand, 1))
	summons := slices.Concat(summon(5, 6), summon(5, 0), summon(3, -1), summon(1, 6), summon(1, 0))
	return x, [][]api.Option{summons, {lay(4), lay(2)}, {play(0, 0), play(0, 2), play(4, 0), play(8, 0)}, {turn(6), turn(0)}, {battle}, {end}}
}

// P16.1: the sections, in their order; in each the pieces by places; whose turn it is has them alone.
func TestSections(t *testing.T) {
	x, all := whole(t)
	offers(t, "all", x, slices.Concat(all[:4]...)...)
	for _, x := range []api.Table{x, other(x)} {
		for _, c := range []struct {
			summoned, second bool
			turn             int
			want             []api.Option
		}{
			{false, false, 3, slices.Concat(all...)},
			{true, false, 3, slices.Concat(all[1:]...)},
			{false, true, 3, slices.Concat(slices.Concat(all[:4]...), all[5])},
			{true, true, 3, slices.Concat(slices.Concat(all[1:4]...), all[5])},
			{true, false, 2, slices.Concat(all[1], all[2], []api.Option{turn(6)}, all[4], all[5])},
			{true, false, 1, slices.Concat(all[1], all[2], all[5])},
			{true, true, 1, slices.Concat(all[1], all[2], all[5])},
		} {
			x.Turn = c.turn
			if l := idle.Options(x, c.summoned, c.second); !slices.Equal(l, c.want) {
				t.Errorf("Options(%v, %v) of %d, in the turn %d = %v; not %v", c.summoned, c.second, x.Player, c.turn, l, c.want)
			}
		}
	}
	x.Player = 1
	if l := idle.Options(x, false, false); !slices.Equal(l, slices.Concat(summon(9, -1), []api.Option{lay(10), turn(7), battle, end})) {
		t.Errorf("Options of 1 = %v", l)
	}
}

// P16.1: the battle is there from the second turn on, and not behind itself; the end always is, behind all.
func TestBattleAndEnd(t *testing.T) {
	for _, x := range []api.Table{table(t), table(t, row(0, 0), row(1, 0))} {
		for _, x.Turn = range []int{1, 2, 3, api.MaxTurns, api.MaxTurns + 1, 1 << 40} {
			for _, x.Player = range []uint8{0, 1} {
				for _, summoned := range []bool{false, true} {
					for _, second := range []bool{false, true} {
						l := idle.Options(x, summoned, second)
						i := slices.Index(l, battle)
						if len(l) == 0 || l[len(l)-1] != end || (i < 0) != (second || x.Turn == 1) || i >= 0 && i != len(l)-2 {
							t.Errorf("Options(%v, %v) in the turn %d = %v", summoned, second, x.Turn, l)
						}
					}
				}
			}
		}
	}
}

// wrong are changes after which a table of at least two pieces may not be.
func wrong() []func(*api.Table) {
	return []func(*api.Table){
		func(x *api.Table) { x.Turn = 0 },
		func(x *api.Table) { x.Player = 2 },
		func(x *api.Table) { x.Life[1] = -1 },
		func(x *api.Table) { x.Life[0] = api.MaxLife + 1 },
		func(x *api.Table) { x.Kinds = nil },
		func(x *api.Table) { x.Pieces[1].Def = kinds },
		func(x *api.Table) { x.Pieces[1].Def = -1 },
		func(x *api.Table) { x.Pieces[1].Has = 2 },
		func(x *api.Table) { x.Pieces[1].Owner = 1 - x.Pieces[1].Owner },
		func(x *api.Table) { x.Pieces[1].At = 2 },
		func(x *api.Table) { x.Pieces[1].Zone = api.Nowhere + 1 },
		func(x *api.Table) { x.Pieces[1].Attack = -1 },
		func(x *api.Table) { x.Pieces[0].Guard = api.MaxNumber + 1 },
		func(x *api.Table) { x.Pieces = append(x.Pieces, x.Pieces[0]) },
		func(x *api.Table) { x.Pieces = append(x.Pieces, make([]api.Piece, api.MaxCards)...) },
	}
}

// P16.1: nothing may be done in a table that may not be, not even the end; it stays as it is.
func TestWrongTable(t *testing.T) {
	for i, spoil := range wrong() {
		x := table(t, hand(pawn, 0), hand(rain, 1), since(1, row(0, 0)))
		was := slices.DeleteFunc(idle.Options(x, false, false), func(o api.Option) bool { return o.Do == api.OpPlay })
		if len(was) != 6 {
			t.Fatalf("Options = %v", was)
		}
		spoil(&x)
		for _, flag := range []bool{false, true} {
			if l := idle.Options(x, flag, flag); len(l) > 0 {
				t.Errorf("%d: Options = %v", i, l)
			}
		}
		for _, o := range was {
			refused(t, x, o)
		}
	}
	if l := idle.Options(api.Table{}, false, false); len(l) > 0 {
		t.Errorf("Options = %v", l)
	}
	refused(t, api.Table{}, end)
	refused(t, api.Table{}, option(api.OpSummon, 0, -1))
}
