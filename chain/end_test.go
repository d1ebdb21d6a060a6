package chain_test

import (
	"math"
	"testing"

	"joust/api"
	"joust/board"
	"joust/chain"
)

// The places of cards' kinds, each a piece of its own, too: a unit that hurts by its act; a Spell, a Trap, a Counter upon link, one upon try, and one that negates twice.
const (
	knight = iota
	rain
	net
	wall
	gate
	twice
	many
)

func cards() []api.Card {
	aura := api.Step{Do: api.StBoost, N: num(500), All: true, Sel: api.Sel{Zone: api.Row}}
	return []api.Card{
		card(api.Unit, api.Effect{Mode: api.Act, Steps: []api.Step{hurt(1000)}}, api.Effect{Mode: api.Aura, Steps: []api.Step{aura}}),
		card(api.Spell, play(hurt(100), heal(10))),
		card(api.Trap, play(hurt(1)), api.Effect{Mode: api.Must, Steps: []api.Step{heal(3)}}),
		card(api.Counter, upon(api.EvLink, heal(20), negate(), heal(30))),
		card(api.Counter, upon(api.EvTry, negate())),
		card(other, upon(api.EvLink, negate(), negate()), api.Effect{Mode: api.If, Ev: api.EvLink, Steps: []api.Step{negate()}}),
	}
}

// shown is each of them once, of 0, in Row or Back, Up; and a Trap of 1, face down, a Spell in the Grave.
func shown(t *testing.T) api.Table {
	t.Helper()
	x := table(t, cards(), up(at(knight, 0, api.Row, 0)))
	for def := rain; def < many; def++ {
		x.Pieces = append(x.Pieces, up(at(def, 0, api.Back, def-rain)))
	}
	x.Pieces = append(x.Pieces, at(net, 1, api.Back, 0), up(at(rain, 0, api.Grave, 0)))
	x.Events = nil
	return x
}

// of is a link of a piece's first effect, of a player.
func of(who uint8, piece int) api.Link { return api.Link{Who: who, Piece: piece, Speed: 1} }

// dead is a link that was negated.
func dead(l api.Link) api.Link {
	l.Dead = true
	return l
}

// ends is how lives, the moments and the grave of 0 are behind a chain, and whether the summon was negated.
func ends(t *testing.T, what string, x api.Table, l []api.Link, life [2]int, moments int, negated bool, grave ...int) api.Table {
	t.Helper()
	y, is := chain.End(x, l)
	if y.Life != life || y.Moment != x.Moment+moments || is != negated || !board.May(y) {
		t.Errorf("%s: %v, %d moments, %v; not %v, %d, %v", what, y.Life, y.Moment-x.Moment, is, life, moments, negated)
	}
	in(t, what, y, 0, api.Grave, grave...)
	return y
}

// P14.2: each step is done, in order, from the last link to the first, each of its own player; then the pieces of plays go to the grave, from the first one on.
func TestInOrder(t *testing.T) {
	x := shown(t)
	const was = many + 1
	ends(t, "no links", x, nil, [2]int{8000, 5000}, 0, false, was)
	ends(t, "a Spell", x, []api.Link{of(0, rain)}, [2]int{8010, 4900}, 2, false, was, rain)
	y := ends(t, "three", x, []api.Link{of(0, rain), of(0, knight), of(1, net)}, [2]int{8009, 3900}, 4, false, was, rain, net)
	for i, want := range []api.Event{{Who: 0, Moment: 8}, {Who: 1, Moment: 9}, {Who: 1, Moment: 10}} {
		want.Ev, want.Piece = api.EvDamage, -1
		if len(y.Events) != 3 || y.Events[i] != want {
			t.Errorf("Events = %+v", y.Events)
		}
	}
	ends(t, "from the first on", x, []api.Link{of(0, net), of(0, gate), of(0, rain)}, [2]int{8010, 4899}, 4, true, was, net, gate, rain)
	ends(t, "one, often", x, []api.Link{of(0, net), of(0, net), of(1, net)}, [2]int{7999, 4998}, 3, false, was, net)
	x.Life[1] = 0
	ends(t, "of one without life", x, []api.Link{of(0, net)}, [2]int{8000, 0}, 1, false, was, net)
}

// P14.2: pieces are picked with the link, and an expression of a step is told when that is done.
func TestPicksAndNumbers(t *testing.T) {
	e := api.Effect{Pick: 2, Sel: api.Sel{Side: api.Any, Zone: api.Row}, Steps: []api.Step{{Do: api.StBounce}, {Do: api.StDamage, Side: api.Any, N: api.Expr{Op: api.ExCount, Sel: own(api.Hand)}}}}
	x := table(t, []api.Card{card(api.Unit), card(api.Quick, e)}, up(at(0, 0, api.Row, 0)), up(at(0, 0, api.Row, 1)), up(at(0, 1, api.Row, 0)), at(1, 1, api.Back, 0), at(1, 0, api.Back, 0))
	x, first := begin(t, x, 1, 3, 0, 1, 0)
	x, second := begin(t, x, 0, 4, 0, 1, 2)
	y, _ := chain.End(x, []api.Link{first, second})
	in(t, "picked", y, 0, api.Hand, 1, 0)
	in(t, "picked", y, 1, api.Hand, 2)
	if y.Life != [2]int{7998, 4998} {
		t.Errorf("Life = %v", y.Life)
	}
}

// own are one's own of a zone.
func own(zone uint8) api.Sel { return api.Sel{Side: api.Mine, Zone: zone} }

// P14.2: a negate upon link makes the link right ahead Dead, if there is one; the other steps are done; a moment passes with each.
func TestNegatesLink(t *testing.T) {
	x := shown(t)
	const was = many + 1
	ends(t, "of one", x, []api.Link{of(0, rain), of(1, wall)}, [2]int{8000, 5050}, 3, false, was, rain, wall)
	ends(t, "of none", x, []api.Link{of(1, wall)}, [2]int{8000, 5050}, 3, false, was, wall)
	ends(t, "of the one right ahead alone", x, []api.Link{of(0, rain), of(0, net), of(1, wall)}, [2]int{8010, 4950}, 5, false, was, rain, net, wall)
	ends(t, "of a negate", x, []api.Link{of(0, rain), of(0, twice), of(1, wall)}, [2]int{8010, 4950}, 5, false, was, rain, twice, wall)
	ends(t, "of the same one's", x, []api.Link{of(0, rain), of(0, twice)}, [2]int{8000, 5000}, 2, false, was, rain, twice)
	ends(t, "ahead of it", x, []api.Link{of(0, twice), of(0, rain)}, [2]int{8010, 4900}, 4, false, was, twice, rain)
	ends(t, "of one that is Dead", x, []api.Link{of(0, rain), dead(of(0, net)), of(0, twice)}, [2]int{8010, 4900}, 4, false, was, rain, net, twice)
	ends(t, "of one that does nothing", x, []api.Link{of(0, rain), of(9, net), of(0, twice)}, [2]int{8010, 4900}, 4, false, was, rain, twice)
	trigger := api.Link{Piece: twice, Effect: 1}
	ends(t, "of a trigger", x, []api.Link{of(0, rain), trigger}, [2]int{8000, 5000}, 1, false, was, rain)
	chained := []api.Link{of(0, net), of(0, twice), of(0, twice), of(0, twice)}
	ends(t, "of three", x, chained, [2]int{8000, 5000}, 4, false, was, net, twice)
	ends(t, "of two", x, chained[:3], [2]int{8000, 4999}, 3, false, was, net, twice)
}

// P14.2: a negate upon try negates the summon, wherever it stands in the chain, and no link; not if it is Dead.
func TestNegatesSummon(t *testing.T) {
	x := shown(t)
	const was = many + 1
	ends(t, "alone", x, []api.Link{of(1, gate)}, [2]int{8000, 5000}, 1, true, was, gate)
	ends(t, "of a link ahead", x, []api.Link{of(0, net), of(1, gate)}, [2]int{8000, 4999}, 2, true, was, net, gate)
	ends(t, "negated", x, []api.Link{of(1, gate), of(0, twice)}, [2]int{8000, 5000}, 2, false, was, gate, twice)
	ends(t, "Dead", x, []api.Link{dead(of(1, gate))}, [2]int{8000, 5000}, 0, false, was, gate)
	ends(t, "below one", x, []api.Link{of(1, gate), of(0, net)}, [2]int{8000, 4999}, 2, true, was, gate, net)
	ends(t, "its negation negated", x, []api.Link{of(1, gate), of(0, twice), of(0, wall)}, [2]int{8050, 5000}, 4, true, was, gate, twice, wall)
}

// P14.2: a negate of an effect that is upon neither negates nothing; a moment passes.
func TestNegatesNothing(t *testing.T) {
	for ev := range 256 {
		if ev == api.EvTry || ev == api.EvLink {
			continue
		}
		kinds := []api.Card{card(api.Trap, play(hurt(1))), card(api.Counter, upon(uint8(ev), negate()))}
		x := table(t, kinds, at(0, 0, api.Back, 0), at(1, 0, api.Back, 1))
		ends(t, "upon neither", x, []api.Link{of(0, 0), of(0, 1)}, [2]int{8000, 4999}, 2, false)
	}
}

// P14.2: behind the last moment comes the first one.
func TestMoments(t *testing.T) {
	for was, want := range map[int]int{-1: 0, 0: 1, math.MaxInt: math.MinInt, math.MinInt: math.MinInt + 1} {
		for _, piece := range []int{gate, net} {
			x := shown(t)
			x.Moment = was
			if y, _ := chain.End(x, []api.Link{of(0, piece)}); y.Moment != want {
				t.Errorf("behind %d: %d", was, y.Moment)
			}
		}
	}
}

// P14.2, P14.3: a Dead link does nothing; its piece goes to the grave all the same.
func TestDead(t *testing.T) {
	x := shown(t)
	const was = many + 1
	ends(t, "alone", x, []api.Link{dead(of(0, rain))}, [2]int{8000, 5000}, 0, false, was, rain)
	ends(t, "upon link", x, []api.Link{of(0, rain), dead(of(0, wall))}, [2]int{8010, 4900}, 2, false, was, rain, wall)
	ends(t, "between", x, []api.Link{of(0, rain), dead(of(0, knight)), of(0, net)}, [2]int{8010, 4899}, 3, false, was, rain, net)
}

// P14.2: no piece goes to the grave but that of a play, in Back, Up: of no trigger, no unit, not one face down or elsewhere; each to its owner's.
func TestGoesAway(t *testing.T) {
	x := shown(t)
	const was = many + 1
	ends(t, "a unit", x, []api.Link{of(0, knight)}, [2]int{8000, 4000}, 1, false, was)
	ends(t, "an aura", x, []api.Link{{Piece: knight, Effect: 1}}, [2]int{8000, 5000}, 1, false, was)
	ends(t, "a trigger", x, []api.Link{{Piece: net, Effect: 1}}, [2]int{8003, 5000}, 1, false, was)
	y := ends(t, "face down", x, []api.Link{of(1, many)}, [2]int{7999, 5000}, 1, false, was)
	in(t, "face down", y, 1, api.Back, many)
	ends(t, "elsewhere", x, []api.Link{of(1, was)}, [2]int{7900, 5010}, 2, false, was)
	x.Pieces[net] = taken(x.Pieces[net])
	x.Pieces[net].Owner, x.Pieces[net].Has = 1, 0
	y = ends(t, "the other one's", x, []api.Link{of(0, net)}, [2]int{8000, 4999}, 1, false, was)
	in(t, "the other one's", y, 1, api.Grave, net)
	bounce := play(api.Step{Do: api.StBounce, All: true, Sel: own(api.Back)})
	x = table(t, []api.Card{card(api.Trap, bounce), card(api.Unit, play(hurt(1)))}, up(at(0, 0, api.Back, 0)), up(at(0, 0, api.Back, 1)), up(at(1, 0, api.Row, 0)))
	y = ends(t, "bounced", x, []api.Link{of(0, 2), of(0, 1), of(0, 0)}, [2]int{8000, 4999}, 2, false)
	in(t, "bounced", y, 0, api.Hand, 0, 1)
	in(t, "a unit's play", y, 0, api.Row, 2)
}

// P14.2: links of no such effect, or of no player, do nothing.
func TestLinksOfNothing(t *testing.T) {
	x := shown(t)
	x.Pieces = append(x.Pieces, api.Piece{Def: -1, Zone: api.Row, At: 1, Up: true})
	const was = many + 1
	for i, l := range []api.Link{
		of(0, -1), of(0, math.MinInt), of(0, math.MaxInt), of(0, was+1), of(0, was+2),
		{Piece: net, Effect: -1}, {Piece: net, Effect: 2}, {Piece: net, Effect: math.MaxInt}, {Piece: net, Effect: math.MinInt},
		of(2, knight), of(255, knight), of(2, was),
	} {
		for _, links := range [][]api.Link{{l}, {l, dead(of(0, knight))}, {l, l}} {
			y, negated := chain.End(x, links)
			if negated || !board.Same(x, y) {
				t.Errorf("%d: %+v, %v", i, y, negated)
			}
		}
		ends(t, "with another one", x, []api.Link{l, of(0, rain), l}, [2]int{8010, 4900}, 2, false, was, rain)
	}
}

// P14.2: links of no player do nothing: no step of theirs is done, and their piece goes nowhere because of them, but because of a link of a player.
func TestLinksOfNoPlayer(t *testing.T) {
	x := shown(t)
	const was = many + 1
	for who := 2; who < 256; who++ {
		for def := rain; def < many; def++ {
			l := of(uint8(who), def)
			for _, links := range [][]api.Link{{l}, {dead(l)}, {l, l}, {l, of(0, -1)}} {
				y, negated := chain.End(x, links)
				if negated || !board.Same(x, y) {
					t.Errorf("%d of %d: %+v, %v", def, who, y, negated)
				}
			}
			ends(t, "of no player", x, []api.Link{of(0, knight), l}, [2]int{8000, 4000}, 1, false, was)
			ends(t, "Dead, of a player, too", x, []api.Link{l, dead(of(1, def)), l}, [2]int{8000, 5000}, 0, false, was, def)
		}
	}
}

// P14.2: of a table that may not be: as it is, no.
func TestEndOfNoTable(t *testing.T) {
	for i, spoil := range []func(x *api.Table){
		func(x *api.Table) { x.Turn = 0 },
		func(x *api.Table) { x.Player = 2 },
		func(x *api.Table) { x.Life[1] = -1 },
		func(x *api.Table) { x.Pieces[many].At = 5 },
		func(x *api.Table) { x.Pieces[many].Def = many },
		func(x *api.Table) { x.Pieces[many].Zone = 8 },
		func(x *api.Table) { x.Kinds = nil },
		func(x *api.Table) { *x = api.Table{} },
	} {
		x := shown(t)
		spoil(&x)
		y, negated := chain.End(x, []api.Link{of(0, net), of(0, gate), of(0, wall)})
		if negated || !board.Same(x, y) {
			t.Errorf("%d: %+v, %v", i, y, negated)
		}
	}
}
