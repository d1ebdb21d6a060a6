package trig_test

import (
	"math"
	"slices"
	"testing"

	"joust/api"
	"joust/board"
	"joust/trig"
)

// at is a piece of a kind, of a player, in a zone, at a place, Up.
func at(def int, who, zone uint8, place int) api.Piece {
	return api.Piece{Def: def, Owner: who, Has: who, Zone: zone, At: place, Up: true}
}

// unit is a kind with effects.
func unit(l ...api.Effect) api.Card { return api.Card{Effects: l} }

// upon is an effect upon a destruction.
func upon(mode, side uint8) api.Effect {
	return api.Effect{Mode: mode, Ev: api.EvDestroy, Side: side}
}

// table is the third turn, which is 0's.
func table(t *testing.T, kinds []api.Card, l ...api.Piece) api.Table {
	t.Helper()
	x := api.Table{Kinds: kinds, Pieces: l, Life: [2]int{8000, 5000}, Turn: 3, Moment: 7}
	if !board.May(x) {
		t.Fatalf("no table may be so: %+v", l)
	}
	return x
}

// lone is a table of one piece, of a kind of one effect.
func lone(t *testing.T, e api.Effect, p api.Piece) api.Table {
	t.Helper()
	return table(t, []api.Card{unit(e)}, p)
}

// inRow is a piece of the first kind that 0 has in Row.
func inRow() api.Piece { return at(0, 0, api.Row, 0) }

// far is a piece that lies on no table of these tests.
const far = 99

// destroyed is a destruction of a piece of a player, at the last moment of table.
func destroyed(id int, who uint8) []api.Event {
	return []api.Event{{Ev: api.EvDestroy, Moment: 7, Piece: id, Who: who}}
}

// earlier is the same, a moment ahead of the last one.
func earlier(id int, who uint8) []api.Event {
	l := destroyed(id, who)
	l[0].Moment--
	return l
}

// collects asks what Collect tells.
func collects(t *testing.T, what string, x api.Table, l []api.Event, want ...api.Ready) {
	t.Helper()
	if is := trig.Collect(x, l); !slices.Equal(is, want) {
		t.Errorf("%s: Collect = %v; not %v", what, is, want)
	}
}

// P13.1: the chapter's example.
func TestExample(t *testing.T) {
	kinds := []api.Card{unit(upon(api.Must, api.Any)), unit(upon(api.When, api.Any))}
	for _, pieces := range [][]api.Piece{
		{at(0, 1, api.Row, 0), at(1, 0, api.Row, 0)},
		{at(1, 0, api.Row, 0), at(0, 1, api.Row, 0)},
	} {
		x := table(t, kinds, pieces...)
		must, may := api.Ready{Who: 1, Piece: 0, Must: true}, api.Ready{Who: 0, Piece: 1}
		if pieces[0].Def == 1 {
			must.Piece, may.Piece = 1, 0
		}
		collects(t, "at the last moment", x, destroyed(far, 0), must, may)
		if l := trig.Group(x, trig.Collect(x, destroyed(far, 0))); !slices.Equal(l, []api.Ready{must}) {
			t.Errorf("Group = %v", l)
		}
		collects(t, "earlier", x, earlier(far, 0), must)
	}
}

// many is a table of two pieces of each player, each with six triggers and others between them.
func many(t *testing.T) api.Table {
	t.Helper()
	mixed := unit(upon(api.When, api.Any), upon(api.Must, api.Any), upon(api.Act, api.Any), upon(api.If, api.Any), upon(api.Must, api.Any))
	plain := unit(upon(api.Aura, api.Any), upon(api.If, api.Any))
	return table(t, []api.Card{mixed, plain, unit()},
		at(0, 1, api.Row, 3), at(1, 0, api.Row, 4), at(2, 0, api.Row, 0), at(0, 0, api.Row, 2), at(1, 1, api.Row, 0), at(0, 1, api.Row, 1), at(0, 0, api.Row, 1))
}

// P13.1: what must be ahead of what may, the one whose turn it is ahead of the other one; in a group by pieces' numbers, not by places, then by effects.
func TestOrder(t *testing.T) {
	x := many(t)
	must, may := [2][]api.Ready{}, [2][]api.Ready{}
	for _, c := range []struct {
		who uint8
		id  int
	}{{1, 0}, {0, 3}, {1, 5}, {0, 6}} {
		for _, effect := range []int{1, 4} {
			must[c.who] = append(must[c.who], api.Ready{Who: c.who, Piece: c.id, Effect: effect, Must: true})
		}
	}
	may[0] = []api.Ready{{Piece: 1, Effect: 1}, {Piece: 3}, {Piece: 3, Effect: 3}, {Piece: 6}, {Piece: 6, Effect: 3}}
	may[1] = []api.Ready{{Who: 1}, {Who: 1, Effect: 3}, {Who: 1, Piece: 4, Effect: 1}, {Who: 1, Piece: 5}, {Who: 1, Piece: 5, Effect: 3}}
	collects(t, "of 0's turn", x, destroyed(far, 1), slices.Concat(must[0], must[1], may[0], may[1])...)
	x.Player = 1
	all := slices.Concat(must[1], must[0], may[1], may[0])
	collects(t, "of 1's turn", x, destroyed(far, 1), all...)
	for _, want := range [][]api.Ready{must[1], must[0], may[1], may[0], nil, nil} {
		g := trig.Group(x, all)
		if !slices.Equal(g, want) {
			t.Errorf("Group = %v; not %v", g, want)
		}
		all = all[len(g):]
	}
}

// P13.1: each trigger comes once, however many events set it off.
func TestOnce(t *testing.T) {
	x := table(t, []api.Card{unit(upon(api.Must, api.Any), upon(api.If, api.Any), upon(api.When, api.Any))}, inRow())
	l := slices.Concat(destroyed(far, 0), destroyed(far, 0), destroyed(0, 1), earlier(far, 1), earlier(far, 0))
	collects(t, "five events", x, l, api.Ready{Must: true}, api.Ready{Effect: 1}, api.Ready{Effect: 2})
	slices.Reverse(l)
	collects(t, "five events, back", x, l, api.Ready{Must: true}, api.Ready{Effect: 1}, api.Ready{Effect: 2})
	collects(t, "none", x, nil)
	collects(t, "none", x, []api.Event{})
}

// P13.1: when, if and must alone are triggers; of must alone Must is told; when misses what happened ahead of the last moment.
func TestModes(t *testing.T) {
	for mode := range 256 {
		x := lone(t, upon(uint8(mode), api.Any), inRow())
		r := api.Ready{Must: mode == api.Must}
		switch mode {
		case api.If, api.Must:
			collects(t, "earlier", x, earlier(far, 0), r)
			collects(t, "at the last moment", x, destroyed(far, 0), r)
		case api.When:
			collects(t, "earlier", x, earlier(far, 0))
			collects(t, "at the last moment", x, destroyed(far, 0), r)
		default:
			collects(t, "no trigger", x, append(earlier(far, 0), destroyed(far, 0)...))
		}
	}
}

// P13.1: an effect comes of its own Ev, of what is told, not of what the table tells.
func TestEvents(t *testing.T) {
	for ev := range uint8(api.EvEnd + 2) {
		for of := range uint8(api.EvEnd + 2) {
			x := lone(t, api.Effect{Mode: api.If, Ev: ev, Side: api.Any}, inRow())
			x.Events = []api.Event{{Ev: ev, Moment: 7}}
			var want []api.Ready
			if ev == of && ev != api.EvNone {
				want = []api.Ready{{}}
			}
			collects(t, "an event", x, []api.Event{{Ev: of, Moment: 7}}, want...)
		}
	}
}

// P13.1: it is told for the one who has the piece, whosever that is, and whosever turn it is.
func TestWhose(t *testing.T) {
	for owner := range uint8(2) {
		for has := range uint8(2) {
			for player := range uint8(2) {
				for whose := range uint8(2) {
					p := inRow()
					p.Owner, p.Has = owner, has
					for side, set := range []bool{api.Mine: whose == has, api.Theirs: whose != has, api.Any: true, api.Self: false} {
						x := lone(t, upon(api.If, uint8(side)), p)
						x.Player = player
						var want []api.Ready
						if set {
							want = []api.Ready{{Who: has}}
						}
						collects(t, "a piece of one, that one has", x, destroyed(far, whose), want...)
					}
				}
			}
		}
	}
}

// P13.1: of self the piece itself counts, of each piece.
func TestSelf(t *testing.T) {
	x := table(t, []api.Card{unit(upon(api.Must, api.Self))}, at(0, 1, api.Row, 0), inRow(), at(0, 0, api.Grave, 0), at(0, 1, api.Row, 1))
	for id, who := range []uint8{1, 0, 0, 1} {
		collects(t, "itself", x, destroyed(id, 1-who), api.Ready{Who: who, Piece: id, Must: true})
	}
	collects(t, "none", x, destroyed(-1, 0))
	collects(t, "another one", x, destroyed(4, 0))
	collects(t, "all", x, slices.Concat(destroyed(3, 1), destroyed(2, 0), destroyed(0, 1), destroyed(1, 0)),
		api.Ready{Piece: 1, Must: true}, api.Ready{Piece: 2, Must: true}, api.Ready{Who: 1, Must: true}, api.Ready{Who: 1, Piece: 3, Must: true})
}

// P13.1: what was set off comes in Row, Up, alone; upon destroy self in a grave, too.
func TestPlaces(t *testing.T) {
	for _, zone := range []uint8{api.Deck, api.Hand, api.Row, api.Grave, api.Exile, api.Limbo} {
		for _, up := range []bool{false, true} {
			for _, side := range []uint8{api.Mine, api.Any, api.Self} {
				p := at(0, 0, zone, 0)
				p.Up = up
				var want []api.Ready
				if zone == api.Row && up || zone == api.Grave && side == api.Self {
					want = []api.Ready{{}}
				}
				collects(t, "somewhere", lone(t, upon(api.If, side), p), destroyed(0, 0), want...)
			}
		}
	}
	own := api.Effect{Mode: api.If, Ev: api.EvSummon, Side: api.Self}
	collects(t, "in a grave, upon summon", lone(t, own, at(0, 0, api.Grave, 0)), []api.Event{{Ev: api.EvSummon, Moment: 7}})
	collects(t, "in Row, upon summon", lone(t, own, inRow()), []api.Event{{Ev: api.EvSummon, Moment: 7}}, api.Ready{})
}

// P13.1: a spell in Back doesn't come, though its effect is a trigger; in a grave it does, upon destroy self.
func TestNoUnit(t *testing.T) {
	for kind := uint8(api.Spell); kind <= api.Counter; kind++ {
		kinds := []api.Card{{Kind: kind, Effects: []api.Effect{upon(api.Must, api.Self)}}}
		collects(t, "in Back", table(t, kinds, at(0, 0, api.Back, 0)), destroyed(0, 0))
		collects(t, "in a grave", table(t, kinds, at(0, 1, api.Grave, 0)), destroyed(0, 0), api.Ready{Who: 1, Must: true})
	}
}

// P13.1: what can't be afforded doesn't come, though it must.
func TestCosts(t *testing.T) {
	for i, c := range []struct {
		e    api.Effect
		used uint8
		want bool
	}{
		{api.Effect{}, 0, true}, {api.Effect{}, 1, false}, {api.Effect{}, 254, true}, {api.Effect{Pay: 7999}, 0, true}, {api.Effect{Pay: 8000}, 0, false}, {api.Effect{Discard: 1}, 0, false},
		{api.Effect{Cond: []api.Expr{{N: 1}}}, 0, true}, {api.Effect{Cond: []api.Expr{{}}}, 0, false}, {api.Effect{Pick: 1, Sel: api.Sel{Side: api.Self, Zone: api.Row}}, 0, true}, {api.Effect{Pick: 1, Sel: api.Sel{Zone: api.Row}}, 0, false},
	} {
		for _, mode := range []uint8{api.When, api.If, api.Must} {
			c.e.Mode, c.e.Ev, c.e.Side = mode, api.EvDestroy, api.Any
			x := lone(t, c.e, inRow())
			x.Pieces[0].Used = c.used
			var want []api.Ready
			if c.want {
				want = []api.Ready{{Must: mode == api.Must}}
			}
			if l := trig.Collect(x, destroyed(far, 1)); !slices.Equal(l, want) {
				t.Errorf("%d: Collect = %v", i, l)
			}
		}
	}
}

// P13.1: tokens, in Row and nowhere, have no triggers.
func TestTokens(t *testing.T) {
	token, gone := api.Piece{Def: -1, Zone: api.Row, At: 1, Up: true}, api.Piece{Def: -1, Zone: api.Nowhere}
	x := table(t, []api.Card{unit(upon(api.Must, api.Any))}, gone, token, inRow())
	collects(t, "tokens", x, slices.Concat(destroyed(0, 0), destroyed(1, 0)), api.Ready{Piece: 2, Must: true})
	collects(t, "tokens alone", table(t, nil, gone, token), destroyed(0, 0))
	collects(t, "no piece", table(t, nil), destroyed(0, 0))
}

// wrong spoils a table, each by one thing.
func wrong() []func(*api.Table) {
	return []func(*api.Table){
		func(x *api.Table) { x.Turn = 0 },
		func(x *api.Table) { x.Player = 2 },
		func(x *api.Table) { x.Life[1] = -1 },
		func(x *api.Table) { x.Life[0] = api.MaxLife + 1 },
		func(x *api.Table) { x.Pieces[1].Def = len(x.Kinds) },
		func(x *api.Table) { x.Pieces[1].Def = -2 },
		func(x *api.Table) { x.Pieces[1].Def = math.MaxInt },
		func(x *api.Table) { x.Pieces[1].Has = 2 },
		func(x *api.Table) { x.Pieces[1].Zone = api.Nowhere },
		func(x *api.Table) { x.Pieces[1].At = -1 },
		func(x *api.Table) { x.Pieces[2].At = x.Pieces[1].At },
		func(x *api.Table) { x.Kinds = nil },
		func(x *api.Table) { x.Pieces = append(x.Pieces, make([]api.Piece, api.MaxCards)...) },
		func(x *api.Table) { *x = api.Table{} },
	}
}

// P13.1: of a table that may not be there are none, and none are left.
func TestNoTable(t *testing.T) {
	all := trig.Collect(many(t), destroyed(far, 0))
	for i, spoil := range wrong() {
		x := many(t)
		spoil(&x)
		if l := trig.Collect(x, destroyed(far, 0)); len(l) != 0 {
			t.Errorf("%d: Collect = %v", i, l)
		}
		if l := trig.Left(x, all); len(l) != 0 {
			t.Errorf("%d: Left = %v", i, l)
		}
	}
}

// P13.1: each call ends, whatever the expressions are made of.
func TestEndless(t *testing.T) {
	endless := []api.Expr{{Op: api.ExAdd}, {N: 1}}
	endless[0].Args = endless
	e := upon(api.Must, api.Any)
	e.Cond = endless
	x := lone(t, e, inRow())
	collects(t, "endless", x, destroyed(far, 0))
	if l := trig.Left(x, []api.Ready{{}}); len(l) != 0 {
		t.Errorf("Left = %v", l)
	}
}
