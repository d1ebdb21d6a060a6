package can_test

import (
	"math"
	"slices"
	"testing"

	"joust/api"
	"joust/can"
)

// all is what All tells of 0, who may activate something.
func all(t *testing.T, x api.Table, w api.Window) []api.Ready {
	t.Helper()
	l := can.All(x, 0, w)
	if len(l) == 0 {
		t.Fatal("All tells nothing")
	}
	return l
}

// affords tells whether the first effect of the first piece can be afforded by the one who has it; whether it may be activated, or come, must hang on that.
func affords(t *testing.T, x api.Table) bool {
	t.Helper()
	who := x.Pieces[0].Has
	is := can.Afford(x, who, 0, 0)
	if mays(t, x, who, open) != is {
		t.Errorf("Afford = %v, but May tells the other", is)
	}
	must := x
	must.Kinds = []api.Card{x.Kinds[0]}
	must.Kinds[0].Effects = []api.Effect{x.Kinds[0].Effects[0]}
	must.Kinds[0].Effects[0].Mode = api.Must
	if can.Trigger(must, who, 0, 0) != is {
		t.Errorf("Afford = %v, but Trigger tells the other", is)
	}
	return is
}

// P12.1: a life must be above what is paid, if that is not 0; the one's who activates it.
func TestPay(t *testing.T) {
	for i, c := range []struct {
		life, pay int
		want      bool
	}{
		{8000, 0, true}, {8000, 1, true}, {8000, 7999, true}, {8000, 8000, false}, {8000, 8001, false}, {0, 0, true}, {0, 1, false}, {1, 1, false}, {1, 0, true}, {2, 1, true},
		{api.MaxLife, api.MaxLife - 1, true}, {api.MaxLife, api.MaxLife, false}, {api.MaxLife, math.MaxInt, false}, {0, -1, true}, {0, math.MinInt, true},
	} {
		for who := range uint8(2) {
			e := swift()
			e.Pay = c.pay
			x := alone(t, api.Unit, e, of(0, who, at(api.Row, true)))
			x.Life[who], x.Life[1-who] = c.life, api.MaxLife-c.life
			if affords(t, x) != c.want {
				t.Errorf("%d: Afford of %d", i, who)
			}
		}
	}
}

// P12.1: what is dropped are other cards of one's own hand.
func TestDrop(t *testing.T) {
	for own := range 4 {
		for drops := -1; drops < 6; drops++ {
			e := swift()
			e.Discard = drops
			l := []api.Piece{at(api.Row, true)}
			for i := range own {
				l = append(l, placed(i, at(api.Hand, false)))
			}
			for i := range 5 {
				l = append(l, of(0, 1, placed(i, at(api.Hand, false))), placed(i, at(api.Deck, false)))
			}
			x := table(t, []api.Card{card(api.Unit, e)}, l...)
			if affords(t, x) != (drops <= own) {
				t.Errorf("%d of %d: Afford", drops, own)
			}
			for _, kind := range []uint8{api.Spell, api.Quick} {
				y := table(t, []api.Card{card(kind, api.Effect{Discard: drops})}, l[1:]...)
				if own > 0 && (can.Afford(y, 0, 0, 0) != (drops < own) || can.May(y, 0, 0, 0, inMain) != (drops < own)) {
					t.Errorf("%d of %d, from there: Afford", drops, own)
				}
			}
		}
	}
	e := api.Effect{Discard: math.MaxInt}
	if can.Afford(alone(t, api.Spell, e, at(api.Hand, false)), 0, 0, 0) {
		t.Error("all that there are: Afford")
	}
}

// P12.1: it is told for who is asked about, whoever has the piece: what 1 has would do.
func TestAffordOfOthers(t *testing.T) {
	pays, drops, picks, needs := swift(), swift(), swift(), swift()
	pays.Pay = 5000
	drops.Discard = 1
	picks.Pick, picks.Sel = 1, api.Sel{Side: api.Mine, Zone: api.Grave}
	needs.Cond = []api.Expr{{Op: api.ExCount, Sel: picks.Sel}}
	kinds := []api.Card{card(api.Unit, pays, drops, picks, needs)}
	x := table(t, kinds, at(api.Row, true), of(0, 1, at(api.Hand, false)), of(0, 1, at(api.Grave, true)))
	x.Life = [2]int{5000, 5001}
	for effect := range kinds[0].Effects {
		if can.Afford(x, 0, 0, effect) || !can.Afford(x, 1, 0, effect) {
			t.Errorf("%d: Afford", effect)
		}
		if can.May(x, 0, 0, effect, open) || can.May(x, 1, 0, effect, open) {
			t.Errorf("%d: May", effect)
		}
	}
}

// P12.1: a call ends, whatever the expressions are made of.
func TestEndless(t *testing.T) {
	endless := []api.Expr{{Op: api.ExAdd}, {N: 1}}
	endless[0].Args = endless
	wide := []api.Expr{{N: 1}, {N: 1}}
	for range 64 {
		wide = []api.Expr{{Op: api.ExAdd, Args: wide}, {Op: api.ExAdd, Args: wide}}
	}
	for _, l := range [][]api.Expr{endless, wide} {
		e := swift()
		e.Cond = l
		if affords(t, alone(t, api.Unit, e, at(api.Row, true))) {
			t.Error("Afford")
		}
	}
}

// P12.1: as many must be there as are picked; not the piece itself.
func TestPick(t *testing.T) {
	for units := 1; units <= api.Slots; units++ {
		for pick := -1; pick <= api.Slots+1; pick++ {
			e := swift()
			e.Pick, e.Sel = pick, api.Sel{Side: api.Mine, Zone: api.Row}
			l := []api.Piece{at(api.Row, true)}
			for i := 1; i < units; i++ {
				l = append(l, placed(i, at(api.Row, i%2 == 0)))
			}
			l = append(l, of(0, 1, at(api.Row, true)))
			if affords(t, table(t, []api.Card{card(api.Unit, e)}, l...)) != (pick < units) {
				t.Errorf("%d of %d: Afford", pick, units)
			}
		}
	}
	e := swift()
	e.Pick, e.Sel = 1, api.Sel{Side: api.Self, Zone: api.Row}
	if !affords(t, alone(t, api.Unit, e, at(api.Row, true))) {
		t.Error("itself: Afford")
	}
	e.Pick = 2
	if affords(t, alone(t, api.Unit, e, at(api.Row, true))) {
		t.Error("itself, twice: Afford")
	}
	e.Pick = math.MaxInt
	if affords(t, alone(t, api.Unit, e, at(api.Row, true))) {
		t.Error("all that there are: Afford")
	}
}

// P12.1: all that it needs must not be 0, as told for who activates it, and the piece.
func TestNeed(t *testing.T) {
	one, minus, nought := api.Expr{N: 1}, api.Expr{N: -1}, api.Expr{}
	life := api.Expr{Op: api.ExLess, Args: []api.Expr{{N: 7999}, {Op: api.ExLife, Side: api.Mine}}}
	power := api.Expr{Op: api.ExSame, Args: []api.Expr{{N: 1000}, {Op: api.ExAttack}}}
	count := api.Expr{Op: api.ExCount, Sel: api.Sel{Side: api.Theirs, Zone: api.Row}}
	for i, c := range []struct {
		l    []api.Expr
		want bool
	}{
		{nil, true}, {[]api.Expr{one}, true}, {[]api.Expr{minus}, true}, {[]api.Expr{nought}, false}, {[]api.Expr{one, minus, one}, true}, {[]api.Expr{one, nought}, false}, {[]api.Expr{nought, one}, false},
		{[]api.Expr{life}, true}, {[]api.Expr{power}, true}, {[]api.Expr{count}, false}, {[]api.Expr{life, power, count}, false}, {[]api.Expr{{Op: 99}}, false}, {[]api.Expr{{Op: api.ExNot}}, false},
	} {
		e := swift()
		e.Cond = c.l
		x := alone(t, api.Unit, e, at(api.Row, true))
		x.Pieces[0].Attack = 1000
		if affords(t, x) != c.want {
			t.Errorf("%d: Afford", i)
		}
		x.Pieces = append(x.Pieces, of(0, 1, at(api.Row, false)))
		if len(c.l) == 3 && affords(t, x) != true {
			t.Errorf("%d: Afford, with another one", i)
		}
	}
	x := alone(t, api.Unit, api.Effect{Mode: api.Swift, Cond: []api.Expr{life}}, of(0, 1, at(api.Row, true)))
	if affords(t, x) {
		t.Error("the other one's life: Afford")
	}
}

// P12.1: of a unit each effect that was used this turn can't be afforded; its bit is that of its place.
func TestUsed(t *testing.T) {
	var l []api.Effect
	for range 12 {
		l = append(l, swift())
	}
	for used := range 256 {
		x := table(t, []api.Card{card(api.Unit, l...)}, at(api.Row, true))
		x.Pieces[0].Used = uint8(used)
		ready := can.All(x, 0, open)
		for effect := range l {
			want := used&(1<<effect) == 0
			if can.Afford(x, 0, 0, effect) != want || can.May(x, 0, 0, effect, open) != want || slices.Contains(ready, api.Ready{Effect: effect}) != want {
				t.Errorf("Used %b: Afford of %d", used, effect)
			}
		}
	}
	for kind := uint8(api.Spell); kind <= other; kind++ {
		x := alone(t, kind, api.Effect{}, at(api.Back, false))
		x.Pieces[0].Used = 255
		if !can.Afford(x, 0, 0, 0) || !mays(t, x, 0, inMain) {
			t.Errorf("of the kind %d: Afford", kind)
		}
	}
}

// P12.1: whether an effect can be afforded doesn't hang on its mode, nor on where the piece is.
func TestAffordAnywhere(t *testing.T) {
	for mode := range 256 {
		for _, zone := range []uint8{api.Deck, api.Hand, api.Row, api.Grave, api.Exile, api.Limbo} {
			for _, pay := range []int{7999, 8000} {
				x := alone(t, api.Unit, api.Effect{Mode: uint8(mode), Pay: pay}, at(zone, false))
				if can.Afford(x, 0, 0, 0) != (pay < 8000) {
					t.Errorf("mode %d, zone %d: Afford of %d", mode, zone, pay)
				}
			}
		}
	}
}
