package duel_test

import (
	"reflect"
	"slices"
	"testing"

	"joust/api"
	"joust/board"
	"joust/duel"
)

func num(n int) api.Expr { return api.Expr{N: n} }

// step is one with a side and a number.
func step(do, side uint8, n int) api.Step { return api.Step{Do: do, Side: side, N: num(n)} }

// upon is an effect of a mode, upon an event of a side, with steps.
func upon(mode, ev, side uint8, steps ...api.Step) api.Effect {
	return api.Effect{Mode: mode, Ev: ev, Side: side, Steps: steps}
}

// picking is an effect that picks so many pieces of Rows.
func picking(e api.Effect, n int) api.Effect {
	e.Pick, e.Sel = n, api.Sel{Side: api.Any, Zone: api.Row}
	return e
}

func unit(name string, attack, guard int, effects ...api.Effect) api.Card {
	return api.Card{Name: name, Level: 4, Attack: attack, Guard: guard, Effects: effects}
}

func card(name string, kind uint8, e api.Effect) api.Card {
	return api.Card{Name: name, Kind: kind, Effects: []api.Effect{e}}
}

// The places of pool's kinds.
const (
	ogre = iota // without effects
	imp
	lord // of level 6
	rain // a spell: damage theirs 500
	gust // a quick: picks one in a Row, bounce
	stop // a counter upon link theirs: negate
	bar  // a counter upon try theirs: negate
	rush // a trap upon try any that makes a token
	kin
)

func pool() []api.Card {
	great := unit("lord", 2500, 2000)
	great.Level = 6
	return []api.Card{
		unit("ogre", 1800, 1000),
		unit("imp", 1000, 1900),
		great,
		card("rain", api.Spell, api.Effect{Steps: []api.Step{step(api.StDamage, api.Theirs, 500)}}),
		card("gust", api.Quick, picking(api.Effect{Steps: []api.Step{{Do: api.StBounce}}}, 1)),
		card("stop", api.Counter, upon(api.Play, api.EvLink, api.Theirs, api.Step{Do: api.StNegate})),
		card("bar", api.Counter, upon(api.Play, api.EvTry, api.Theirs, api.Step{Do: api.StNegate})),
		card("rush", api.Trap, upon(api.Play, api.EvTry, api.Any, step(api.StToken, api.Theirs, 300))),
	}
}

// game is a duel that is played by what is to be done.
type game struct {
	t *testing.T
	d api.Duel
}

// begin is a duel of these kinds with these decks, at its very beginning.
func begin(t *testing.T, kinds []api.Card, decks [2][]int) *game {
	t.Helper()
	d, e := duel.Begin(kinds, decks)
	if e != api.OK {
		t.Fatalf("Begin: %d", e)
	}
	return &game{t, d}
}

// begun is one behind the lots, which leave the decks as they stand: each has the first five cards in hand.
func begun(t *testing.T, kinds []api.Card, decks [2][]int) *game {
	t.Helper()
	g := begin(t, kinds, decks)
	for range len(decks[0]) + len(decks[1]) {
		g.at(api.AtLot)
		g.decide(0)
	}
	return g
}

// mine and theirs are where the cards begin that ready is told.
const (
	mine   = 10
	first  = 15 // the other one's first ogre
	theirs = 25
)

// ready is a duel in the third turn, which is 0's. Each has ten ogres, the first five in hand, and behind them in the deck five cards: these, and more ogres.
func ready(t *testing.T, kinds []api.Card, own, others []int) *game {
	t.Helper()
	fifteen := func(l []int) []int {
		return slices.Concat(make([]int, 10), l, make([]int, 5-len(l)))
	}
	g := begun(t, kinds, [2][]int{fifteen(own), fifteen(others)})
	g.d.Table.Turn, g.d.Recent = 3, nil
	return g
}

// put lays a piece somewhere, since an earlier turn.
func (g *game) put(id int, zone, who uint8, up, low bool) {
	g.t.Helper()
	x, e := board.Put(g.d.Table, id, zone, who, up, low)
	if e != api.OK {
		g.t.Fatalf("Put(%d): %d", id, e)
	}
	x.Pieces[id].Since = 1
	g.d.Table = x
}

// row lays units of a player into the Row, Up.
func (g *game) row(who uint8, ids ...int) {
	g.t.Helper()
	for _, id := range ids {
		g.put(id, api.Row, who, true, false)
	}
}

// back lays cards of a player into Back, face down.
func (g *game) back(who uint8, ids ...int) {
	g.t.Helper()
	for _, id := range ids {
		g.put(id, api.Back, who, false, false)
	}
}

// decide decides an option, by its number.
func (g *game) decide(n int) {
	g.t.Helper()
	d, e := duel.Decide(g.d, n)
	if e != api.OK {
		g.t.Fatalf("Decide(%d) at stage %d: %d", n, g.d.Stage, e)
	}
	g.d = d
}

// number is the number of an option.
func (g *game) number(o api.Option) int {
	g.t.Helper()
	p := duel.Ask(g.d)
	n := slices.Index(p.Options, o)
	if n < 0 {
		g.t.Fatalf("no option %v at stage %d of %d: %v", o, p.Stage, p.Who, p.Options)
	}
	return n
}

// does decides options, one by one.
func (g *game) does(l ...api.Option) {
	g.t.Helper()
	for _, o := range l {
		g.decide(g.number(o))
	}
}

// leads decides an option, and asks that nothing changes but what is told.
func (g *game) leads(o api.Option, change func(d *api.Duel)) {
	g.t.Helper()
	n, want := g.number(o), duel.Copy(g.d)
	change(&want)
	g.decide(n)
	g.same(want)
}

// same asks that the duel stands so.
func (g *game) same(want api.Duel) {
	g.t.Helper()
	if !duel.Same(g.d, want) || !reflect.DeepEqual(duel.Copy(g.d), duel.Copy(want)) {
		g.t.Fatalf("the duel is\n%+v\nnot\n%+v", bare(g.d), bare(want))
	}
}

// bare is a duel without its kinds, to be shown.
func bare(d api.Duel) api.Duel {
	d.Table.Kinds = nil
	return d
}

// at asks for the stage.
func (g *game) at(stage uint8) {
	g.t.Helper()
	if g.d.Stage != stage {
		g.t.Fatalf("stage %d, not %d: %+v", g.d.Stage, stage, bare(g.d))
	}
}

// asks asks who is asked at which stage, and for all that may be decided.
func (g *game) asks(who, stage uint8, want ...api.Option) {
	g.t.Helper()
	if p := duel.Ask(g.d); p.Who != who || p.Stage != stage || !slices.Equal(p.Options, want) {
		g.t.Fatalf("Ask = %+v; not %d at %d: %v", p, who, stage, want)
	}
}

// over asks how it ended.
func (g *game) over(reason, winner uint8) {
	g.t.Helper()
	g.at(api.AtOver)
	if g.d.Reason != reason || g.d.Winner != winner {
		g.t.Fatalf("over by %d, won by %d; not %d, %d", g.d.Reason, g.d.Winner, reason, winner)
	}
	g.asks(0, api.AtOver)
	for _, n := range []int{-1, 0, 1} {
		if d, e := duel.Decide(g.d, n); e != api.ErrState || !duel.Same(d, g.d) {
			g.t.Errorf("Decide(%d) = %d", n, e)
		}
	}
}

// passes passes as long as answers are asked for.
func (g *game) passes() {
	g.t.Helper()
	for g.d.Stage == api.AtAnswer {
		g.does(pass)
	}
}

func option(do uint8, id, arg int) api.Option { return api.Option{Do: do, Piece: id, Arg: arg} }

func summon(id int) api.Option { return option(api.OpSummon, id, -1) }

func play(id, effect int) api.Option { return option(api.OpPlay, id, effect) }

func answer(id, effect int) api.Option { return option(api.OpCard, id, effect) }

func pick(id int) api.Option { return option(api.OpPick, id, -1) }

func attack(id, at int) api.Option { return option(api.OpAttack, id, at) }

var (
	pass   = option(api.OpPass, -1, -1)
	battle = option(api.OpBattle, -1, -1)
	end    = option(api.OpEnd, -1, -1)
)

// happens lets a moment pass at which these happened, as a duel notes it.
func happens(d *api.Duel, l ...api.Event) {
	d.Table.Moment++
	for _, x := range l {
		x.Moment = d.Table.Moment
		d.Table.Events = append(d.Table.Events, x)
	}
}

// settles is what behind that is Recent, where no trigger comes.
func settles(d *api.Duel, then uint8) {
	d.Then, d.Recent, d.Table.Events = then, d.Table.Events, nil
}

// asked is that answers are asked for.
func asked(d *api.Duel, who uint8) { d.Stage, d.Asked, d.Passes = api.AtAnswer, who, 0 }

// moved puts a piece, on the turn that it is.
func moved(d *api.Duel, id int, zone, who uint8, up, low bool) {
	x, e := board.Put(d.Table, id, zone, who, up, low)
	if e != api.OK {
		panic(e)
	}
	d.Table = x
}

// The chapter's example.
func TestExample(t *testing.T) {
	kinds := []api.Card{unit("ogre", 1800, 0)}
	g := begin(t, kinds, [2][]int{make([]int, 6), make([]int, 6)})
	if p := duel.Ask(g.d); len(p.Options) != 6 || p.Who != 0 || p.Stage != api.AtLot {
		t.Errorf("Ask = %v", p)
	}
	for range 12 {
		g.decide(0)
	}
	p := duel.Ask(g.d)
	if p.Stage != api.AtIdle || p.Who != 0 || len(board.In(g.d.Table, 0, api.Hand)) != 5 || len(board.In(g.d.Table, 1, api.Hand)) != 5 {
		t.Errorf("Ask = %v", p)
	}
	g.does(summon(0), pass, pass)
	g.at(api.AtAnswer)
	g.does(pass, pass)
	g.at(api.AtIdle)
}
