package fight_test

import (
	"math"
	"slices"
	"testing"

	"joust/api"
	"joust/board"
	"joust/fight"
)

// The places of pool's kinds.
const (
	pawn = iota
	lord
	net
)

// pool is a unit, one that gives 300 to its side's units, Up, and a trap.
func pool() []api.Card {
	gift := api.Step{Do: api.StBoost, All: true, N: api.Expr{N: 300}, Sel: api.Sel{Zone: api.Row, Kind: api.Unit + 1}}
	return []api.Card{
		{Name: "pawn"},
		{Name: "lord", Effects: []api.Effect{{Mode: api.Aura, Steps: []api.Step{gift}}}},
		{Name: "net", Kind: api.Trap},
	}
}

// in is a pawn, Up, of a player, in a zone, at a place, of that attack and guard.
func in(who, zone uint8, at, attack, guard int) api.Piece {
	return api.Piece{Def: pawn, Owner: who, Has: who, Zone: zone, At: at, Up: true, Attack: attack, Guard: guard}
}

// row is such a pawn in Row.
func row(who uint8, at, attack, guard int) api.Piece { return in(who, api.Row, at, attack, guard) }

// down is a piece face down.
func down(p api.Piece) api.Piece {
	p.Up = false
	return p
}

// low is a piece that keeps its guard.
func low(p api.Piece) api.Piece {
	p.Low = true
	return p
}

// struck is a piece that attacked.
func struck(p api.Piece) api.Piece {
	p.Struck = true
	return p
}

// taken is a piece that the other one owns.
func taken(p api.Piece) api.Piece {
	p.Owner = 1 - p.Has
	return p
}

// of is a piece of another kind.
func of(def int, p api.Piece) api.Piece {
	p.Def = def
	return p
}

// boosted is a piece whose Boost is n.
func boosted(n int, p api.Piece) api.Piece {
	p.Boost = n
	return p
}

// table is these pieces, by numbers, in the third turn, which is 0's.
func table(t *testing.T, l ...api.Piece) api.Table {
	t.Helper()
	x := api.Table{Kinds: pool(), Pieces: l, Life: [2]int{8000, 5000}, Turn: 3}
	if !board.May(x) {
		t.Fatalf("no table may be so: %+v", l)
	}
	return x
}

// comes asks what a fight comes to.
func comes(t *testing.T, what string, x api.Table, a, d int, harm [2]int, dies ...int) {
	t.Helper()
	if h, l, e := fight.Outcome(x, a, d); h != harm || !slices.Equal(l, dies) || e != api.OK {
		t.Errorf("%s: Outcome(%d, %d) = %v, %v, %v; not %v, %v", what, a, d, h, l, e, harm, dies)
	}
}

// refused asks that there is no such fight.
func refused(t *testing.T, what string, x api.Table, a, d int) {
	t.Helper()
	if h, l, e := fight.Outcome(x, a, d); h != [2]int{} || len(l) > 0 || e != api.ErrArg {
		t.Errorf("%s: Outcome(%d, %d) = %v, %v, %v", what, a, d, h, l, e)
	}
}

// P15.1: the chapter's example.
func TestExample(t *testing.T) {
	x := table(t, row(0, 0, 1500, 0), row(1, 0, 1200, 1800))
	comes(t, "not Low", x, 0, 1, [2]int{0, 300}, 1)
	comes(t, "against nobody", x, 0, -1, [2]int{0, 1500})
	x = table(t, row(0, 0, 1500, 0), low(row(1, 0, 1200, 1800)))
	comes(t, "Low", x, 0, 1, [2]int{300, 0})
}

// P15.1: of two that attack each other the one with less dies, and its player has what the other one has more; of equal ones both die, but of nought.
func TestAttackAgainstAttack(t *testing.T) {
	for _, c := range []struct {
		attack, answer int
		mine, theirs   int
		dies           string
	}{
		{1500, 1200, 0, 300, "d"}, {1200, 1500, 300, 0, "a"}, {700, 700, 0, 0, "both"}, {0, 0, 0, 0, ""},
		{701, 700, 0, 1, "d"}, {700, 701, 1, 0, "a"}, {1, 1, 0, 0, "both"}, {1, 0, 0, 1, "d"}, {0, 1, 1, 0, "a"},
		{99999, 0, 0, 99999, "d"}, {0, 99999, 99999, 0, "a"}, {99999, 99999, 0, 0, "both"}, {99998, 99999, 1, 0, "a"},
	} {
		for who := range uint8(2) {
			harm := [2]int{}
			harm[who], harm[1-who] = c.mine, c.theirs
			for _, guard := range []int{0, c.attack, 99999} { // neither one's is asked
				for a := range 2 { // the one that attacks dies first, whichever number it has
					l := []api.Piece{row(1-who, 2, c.answer, guard), row(1-who, 2, c.answer, guard)}
					l[a] = row(who, 3, c.attack, guard)
					d := 1 - a
					dies := map[string][]int{"": nil, "a": {a}, "d": {d}, "both": {a, d}}[c.dies]
					x := table(t, l...)
					comes(t, "Up", x, a, d, harm, dies...)
					x.Pieces[d].Up = false
					comes(t, "face down", x, a, d, harm, dies...)
					x.Player, x.Pieces[a].Struck, x.Pieces[d].Struck = 1, true, true
					comes(t, "in the turn of 1, and Struck", x, a, d, harm, dies...)
				}
			}
		}
	}
}

// P15.1: one that is Low dies of more than its guard; of less the attacker's player has what is missing; the attacker stays, and its guard is not asked.
func TestAttackAgainstGuard(t *testing.T) {
	for _, c := range []struct {
		attack, guard int
		mine          int
		dies          bool
	}{
		{1500, 1800, 300, false}, {1500, 1400, 0, true}, {1500, 1500, 0, false}, {0, 0, 0, false},
		{1501, 1500, 0, true}, {1499, 1500, 1, false}, {1, 0, 0, true}, {0, 1, 1, false},
		{99999, 0, 0, true}, {0, 99999, 99999, false}, {99999, 99999, 0, false}, {99999, 99998, 0, true},
	} {
		for who := range uint8(2) {
			harm := [2]int{}
			harm[who] = c.mine
			var dies []int
			if c.dies {
				dies = []int{1}
			}
			for _, answer := range []int{0, c.attack, 99999} { // the attack of the one that is Low is not asked
				x := table(t, row(who, 4, c.attack, answer), low(row(1-who, 0, answer, c.guard)))
				comes(t, "Low", x, 0, 1, harm, dies...)
				x.Pieces[1].Up = false
				comes(t, "Low, face down", x, 0, 1, harm, dies...)
			}
		}
	}
}

// P15.1: against nobody all of the attack is the other one's harm, whatever lies in that one's Row.
func TestAttackAgainstNobody(t *testing.T) {
	for _, attack := range []int{0, 1, 1500, 99999} {
		for who := range uint8(2) {
			harm := [2]int{}
			harm[1-who] = attack
			comes(t, "alone", table(t, row(who, 2, attack, 5)), 0, -1, harm)
			comes(t, "not alone", table(t, row(who, 2, attack, 5), row(1-who, 0, 9, 9), low(down(row(1-who, 1, 9, 9)))), 0, -1, harm)
		}
	}
}

// P15.1: attacks are might's: with what boosts and auras give; guards are as they are.
func TestMight(t *testing.T) {
	x := table(t, boosted(-200, row(0, 0, 1000, 0)), boosted(300, row(1, 0, 900, 0)))
	comes(t, "boosts", x, 0, 1, [2]int{400, 0}, 0)
	comes(t, "a boost against nobody", x, 0, -1, [2]int{0, 800})
	x.Pieces[0].Boost = -100000
	comes(t, "a boost below nought", x, 0, -1, [2]int{})
	x.Pieces[1].Boost = -900
	comes(t, "both come to nought", x, 0, 1, [2]int{})
	x.Pieces[0].Boost = math.MaxInt
	comes(t, "a boost above all", x, 0, 1, [2]int{0, 99999}, 1)

	x = table(t, row(0, 0, 1000, 0), row(1, 0, 1200, 1250), of(lord, row(0, 1, 0, 0)))
	comes(t, "an aura of the attacker's", x, 0, 1, [2]int{0, 100}, 1)
	comes(t, "an aura against nobody", x, 0, -1, [2]int{0, 1300})
	comes(t, "its own aura", x, 2, 1, [2]int{900, 0}, 2)
	x.Pieces[1].Low, x.Pieces[1].Boost = true, 5000
	comes(t, "an aura against a guard", x, 0, 1, [2]int{}, 1)
	x.Pieces[0].Boost = -60
	comes(t, "a boost against a guard", x, 0, 1, [2]int{10, 0})

	x = table(t, row(0, 0, 1000, 0), row(1, 0, 900, 900), of(lord, row(1, 1, 0, 0)))
	comes(t, "an aura of the other one's", x, 0, 1, [2]int{200, 0}, 0)
	x.Pieces[1].Up = false
	comes(t, "an aura that face down has no part in", x, 0, 1, [2]int{0, 100}, 1)
	x.Pieces[1].Up, x.Pieces[1].Low = true, true
	comes(t, "an aura gives no guard", x, 0, 1, [2]int{}, 1)
}

// P15.1: who has a piece counts, not who owns it; tokens fight as others do.
func TestWhoHas(t *testing.T) {
	for who := range uint8(2) {
		mine, theirs := [2]int{}, [2]int{}
		mine[who], theirs[1-who] = 200, 200
		x := table(t, taken(row(who, 0, 500, 0)), taken(row(1-who, 0, 700, 700)), of(-1, row(who, 1, 900, 0)), of(-1, taken(row(1-who, 1, 500, 0))))
		comes(t, "less", x, 0, 1, mine, 0)
		comes(t, "more", x, 2, 1, theirs, 1)
		comes(t, "as much", x, 0, 3, [2]int{}, 0, 3)
		x.Pieces[1].Low = true
		comes(t, "less than a guard", x, 0, 1, mine)
		harm := [2]int{}
		harm[1-who] = 500
		comes(t, "against nobody", x, 0, -1, harm)
	}
}

// P15.1: an attacker that may not be: none, one that is elsewhere, not Up, or Low.
func TestWrongAttacker(t *testing.T) {
	x := table(t, row(0, 0, 5, 0), row(1, 0, 4, 0))
	for _, a := range []int{math.MinInt, -2, -1, 2, 3, api.MaxCards, math.MaxInt} {
		refused(t, "none", x, a, -1)
		refused(t, "none", x, a, 0)
		refused(t, "none", x, a, 1)
	}
	for _, zone := range []uint8{api.Deck, api.Hand, api.Grave, api.Exile, api.Limbo} {
		x := table(t, in(0, zone, 0, 5, 0), row(1, 0, 4, 0))
		refused(t, "elsewhere", x, 0, 1)
		refused(t, "elsewhere", x, 0, -1)
	}
	for what, wrong := range map[string]api.Piece{
		"in Back":            of(net, in(0, api.Back, 0, 5, 0)),
		"Nowhere":            of(-1, in(0, api.Nowhere, 0, 5, 0)),
		"face down":          down(row(0, 0, 5, 0)),
		"Low":                low(row(0, 0, 5, 0)),
		"Low and face down":  low(down(row(0, 0, 5, 0))),
		"a token, face down": of(-1, down(row(0, 0, 5, 0))),
	} {
		x := table(t, wrong, row(1, 0, 4, 0))
		refused(t, what, x, 0, 1)
		refused(t, what, x, 0, -1)
	}
}

// P15.1: one that is attacked and may not be: none, the attacker, another one of its own side, one that is elsewhere.
func TestWrongTarget(t *testing.T) {
	x := table(t, row(0, 0, 5, 0), row(1, 0, 4, 0), row(0, 1, 4, 0), taken(row(0, 2, 4, 0)))
	for _, d := range []int{math.MinInt, -3, -2, 0, 2, 3, 4, 5, api.MaxCards, math.MaxInt} {
		refused(t, "none, or an own one", x, 0, d)
	}
	comes(t, "the other one's", x, 0, 1, [2]int{0, 1}, 1)
	for who := range uint8(2) {
		for _, has := range []uint8{who, 1 - who} {
			for _, zone := range []uint8{api.Deck, api.Hand, api.Grave, api.Exile, api.Limbo} {
				refused(t, "elsewhere", table(t, row(who, 0, 5, 0), in(has, zone, 0, 4, 0)), 0, 1)
			}
			refused(t, "in Back", table(t, row(who, 0, 5, 0), of(net, in(has, api.Back, 0, 4, 0))), 0, 1)
			refused(t, "Nowhere", table(t, row(who, 0, 5, 0), of(-1, in(has, api.Nowhere, 0, 4, 0))), 0, 1)
		}
	}
}

// wrong are changes after which a table of at least two pieces may not be.
func wrong() []func(*api.Table) {
	return []func(*api.Table){
		func(x *api.Table) { x.Turn = 0 },
		func(x *api.Table) { x.Player = 2 },
		func(x *api.Table) { x.Life[1] = -1 },
		func(x *api.Table) { x.Life[0] = api.MaxLife + 1 },
		func(x *api.Table) { x.Kinds = nil },
		func(x *api.Table) { x.Pieces[1].Def = net },
		func(x *api.Table) { x.Pieces[1].Def = net + 1 },
		func(x *api.Table) { x.Pieces[1].Has = 2 },
		func(x *api.Table) { x.Pieces[1].Has = 255 },
		func(x *api.Table) { x.Pieces[1].At = api.Slots },
		func(x *api.Table) { x.Pieces[1].Attack = -1 },
		func(x *api.Table) { x.Pieces[0].Guard = api.MaxNumber + 1 },
		func(x *api.Table) { x.Pieces = append(x.Pieces, x.Pieces[0]) },
		func(x *api.Table) { x.Pieces = append(x.Pieces, make([]api.Piece, api.MaxCards)...) },
	}
}

// P15.1: a table that may not be.
func TestWrongTable(t *testing.T) {
	for i, spoil := range wrong() {
		x := table(t, row(0, 0, 5, 0), row(1, 0, 4, 0))
		spoil(&x)
		for a := -1; a < 2; a++ {
			for d := -1; d < 2; d++ {
				refused(t, "a table that may not be", x, a, d)
			}
		}
		for who := range 256 {
			if l := fight.Attacks(x, uint8(who)); len(l) > 0 {
				t.Errorf("%d: Attacks of %d = %v", i, who, l)
			}
		}
	}
	refused(t, "no table", api.Table{}, 0, 0)
	refused(t, "no table", api.Table{}, 0, -1)
	if l := fight.Attacks(api.Table{}, 0); len(l) > 0 {
		t.Errorf("Attacks = %v", l)
	}
}
