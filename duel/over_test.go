package duel_test

import (
	"testing"

	"joust/api"
	"joust/duel"
)

// P17.2: who has no life left has lost, or who could not draw; nobody wins, if it is so of both; lives come first.
func TestOver(t *testing.T) {
	for _, c := range []struct {
		life   [2]int
		lost   [2]bool
		reason uint8
		winner uint8
	}{
		{[2]int{1, 1}, [2]bool{}, api.NotOver, 0},
		{[2]int{0, 1}, [2]bool{}, api.ByLife, 1},
		{[2]int{1, 0}, [2]bool{}, api.ByLife, 0},
		{[2]int{0, 0}, [2]bool{}, api.ByLife, 2},
		{[2]int{1, 1}, [2]bool{true, false}, api.ByDeck, 1},
		{[2]int{1, 1}, [2]bool{false, true}, api.ByDeck, 0},
		{[2]int{1, 1}, [2]bool{true, true}, api.ByDeck, 2},
		{[2]int{0, 1}, [2]bool{true, false}, api.ByLife, 1},
		{[2]int{1, 0}, [2]bool{false, true}, api.ByLife, 0},
		{[2]int{0, 1}, [2]bool{false, true}, api.ByLife, 2},
		{[2]int{1, 0}, [2]bool{true, false}, api.ByLife, 2},
		{[2]int{0, 0}, [2]bool{true, true}, api.ByLife, 2},
	} {
		g := ready(t, pool(), nil, nil)
		g.d.Table.Life, g.d.Table.Lost = c.life, c.lost
		g.leads(battle, func(d *api.Duel) {
			settles(d, api.ThenBattle)
			d.Stage = api.AtBattle
			if c.reason != api.NotOver {
				d.Stage, d.Reason, d.Winner = api.AtOver, c.reason, c.winner
			}
		})
		if c.reason != api.NotOver {
			g.over(c.reason, c.winner)
		}
	}
}

// P17.2: what happened last stays as it is when it is over: it sets nothing off any more.
func TestOverAtOnce(t *testing.T) {
	g := ready(t, sages(healing(api.Must, api.EvDamage, 1)), []int{kin, rain}, nil)
	g.row(0, mine)
	g.back(0, mine+1)
	g.d.Table.Life[1] = 500
	g.does(play(mine+1, 0), pass)
	g.leads(pass, func(d *api.Duel) {
		d.Passes, d.Links = 2, nil
		d.Table.Life[1] = 0
		happens(d, api.Event{Ev: api.EvDamage, Piece: -1, Who: 1})
		moved(d, mine+1, api.Grave, 0, true, false)
		d.Stage, d.Reason, d.Winner = api.AtOver, api.ByLife, 0
	})
	g.over(api.ByLife, 0)
}

// Somebody is to draw, and has no card: the other one wins; in a turn, or by an effect.
func TestNoCard(t *testing.T) {
	g := begun(t, pool(), [2][]int{make([]int, 6), make([]int, 6)})
	for range 2 {
		g.does(end, pass, pass)
		g.at(api.AtIdle)
	}
	g.does(end, pass)
	g.leads(pass, func(d *api.Duel) {
		d.Passes = 2
		settles(d, api.ThenDrop)
		d.Table.Turn, d.Table.Player = 4, 1
		d.Table.Lost[1] = true
		d.Table.Moment++
		happens(d, api.Event{Ev: api.EvStandby, Piece: -1, Who: 1})
		d.Then, d.Stage, d.Reason, d.Winner = api.ThenIdle, api.AtOver, api.ByDeck, 0
	})
	g.over(api.ByDeck, 0)
	all := api.Effect{Steps: []api.Step{step(api.StDraw, api.Any, 11)}}
	for _, c := range []struct {
		side   uint8
		winner uint8
	}{{api.Mine, 1}, {api.Theirs, 0}, {api.Any, 2}} {
		all.Steps[0].Side = c.side
		g := ready(t, append(pool(), card("well", api.Spell, all)), []int{kin}, nil)
		g.back(0, mine)
		g.d.Table.Life = [2]int{1, 1}
		g.does(play(mine, 0), pass, pass)
		g.over(api.ByDeck, c.winner)
	}
}

// P17.2: a unit that is being summoned stays in Limbo, if it is over ahead of its coming.
func TestOverWhileTrying(t *testing.T) {
	hurt := card("hurt", api.Counter, upon(api.Play, api.EvTry, api.Theirs, api.Step{Do: api.StNegate}, step(api.StDamage, api.Theirs, 8000)))
	g := ready(t, append(pool(), hurt), nil, []int{kin})
	g.back(1, theirs)
	g.does(summon(0), answer(theirs, 0), pass, pass)
	g.over(api.ByLife, 1)
	if d := g.d; d.Table.Pieces[0].Zone != api.Limbo || !d.Trying || d.Try != 0 || !d.Negated || d.Then != api.ThenPlace || len(d.Links) != 0 {
		t.Errorf("%+v", bare(d))
	}
}

// P17.1: with other lives a duel goes on as any.
func TestOtherLives(t *testing.T) {
	g := ready(t, pool(), []int{rain}, nil)
	g.back(0, mine)
	for _, life := range []int{1, 501, api.MaxLife} {
		d := duel.Copy(g.d)
		d.Table.Life[1] = life
		h := &game{t, d}
		h.does(play(mine, 0), pass, pass)
		if is := h.d.Table.Life[1]; is != max(life-500, 0) || (h.d.Stage == api.AtOver) != (life == 1) {
			t.Errorf("life %d: %+v", life, bare(h.d))
		}
	}
}
