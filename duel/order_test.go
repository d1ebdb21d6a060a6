package duel_test

import (
	"testing"

	"joust/api"
	"joust/duel"
)

// healing is an effect of a mode upon an event of any side.
func healing(mode, ev uint8, n int) api.Effect {
	return upon(mode, ev, api.Any, step(api.StHeal, api.Mine, n))
}

// sages is the pool with one more unit, which has these effects.
func sages(effects ...api.Effect) []api.Card {
	return append(pool(), unit("sage", 0, 0, effects...))
}

// P17.2: triggers are put in order group by group: what must be ahead of what may, in each the one's whose turn it is ahead; then the other one than the last link's is asked.
func TestOrder(t *testing.T) {
	g := ready(t, sages(healing(api.Must, api.EvSummon, 1), healing(api.If, api.EvSummon, 10)), []int{kin, kin}, []int{kin})
	g.row(0, mine, mine+1)
	g.row(1, theirs)
	g.does(summon(0), pass)
	own := func(id, effect int) api.Ready { return api.Ready{Piece: id, Effect: effect, Must: effect == 0} }
	its := func(effect int) api.Ready {
		return api.Ready{Who: 1, Piece: theirs, Effect: effect, Must: effect == 0}
	}
	g.leads(pass, func(d *api.Duel) {
		placed(d, 0)
		d.Stage, d.Asked, d.Due, d.Rounds = api.AtOrder, 0, true, 1
		d.Waits = []api.Ready{own(mine, 0), own(mine+1, 0), its(0), own(mine, 1), own(mine+1, 1), its(1)}
		d.Passes = 2
	})
	g.asks(0, api.AtOrder, answer(mine, 0), answer(mine+1, 0))
	g.leads(answer(mine+1, 0), func(d *api.Duel) {
		d.Waits = []api.Ready{own(mine, 0), its(0), own(mine, 1), own(mine+1, 1), its(1)}
		d.Links = []api.Link{{Piece: mine + 1, Speed: 1}}
		d.Table.Pieces[mine+1].Used = 1
		d.Ordered = true
	})
	g.asks(0, api.AtOrder, answer(mine, 0))
	g.does(answer(mine, 0))
	g.asks(1, api.AtOrder, answer(theirs, 0))
	g.does(answer(theirs, 0))
	g.asks(0, api.AtOrder, answer(mine, 1), answer(mine+1, 1), pass)
	g.does(answer(mine, 1))
	g.asks(0, api.AtOrder, answer(mine+1, 1), pass)
	g.leads(pass, func(d *api.Duel) { d.Waits = []api.Ready{its(1)} })
	g.asks(1, api.AtOrder, answer(theirs, 1), pass)
	g.leads(answer(theirs, 1), func(d *api.Duel) {
		d.Waits = nil
		d.Links = append(d.Links, api.Link{Who: 1, Piece: theirs, Effect: 1, Speed: 1})
		d.Table.Pieces[theirs].Used = 3
		asked(d, 0)
	})
	g.does(pass)
	g.leads(pass, func(d *api.Duel) {
		d.Passes, d.Links, d.Due = 2, nil, false
		d.Table.Life[0] += 12
		d.Table.Life[1] += 11
		d.Table.Moment += 5
		settles(d, api.ThenIdle)
		asked(d, 0)
	})
	g.does(pass, pass)
	g.asks(0, api.AtIdle, option(api.OpTurn, mine, -1), option(api.OpTurn, mine+1, -1), battle, end)
	if !g.d.Ordered || g.d.Rounds != 0 {
		t.Errorf("%+v", bare(g.d))
	}
}

// P17.2: who lets the whole group go is not asked about it again; where all was let go, it goes on with the window.
func TestLetGo(t *testing.T) {
	g := ready(t, sages(healing(api.If, api.EvSummon, 1), healing(api.When, api.EvSummon, 1)), []int{kin, kin}, []int{kin})
	g.row(0, mine, mine+1)
	g.row(1, theirs)
	g.does(summon(0), pass, pass)
	g.asks(0, api.AtOrder, answer(mine, 0), answer(mine, 1), answer(mine+1, 0), answer(mine+1, 1), pass)
	g.does(pass)
	g.asks(1, api.AtOrder, answer(theirs, 0), answer(theirs, 1), pass)
	g.leads(pass, func(d *api.Duel) {
		d.Waits, d.Due = nil, false
		asked(d, 0)
	})
	g.does(pass, pass)
	if g.at(api.AtIdle); g.d.Table.Life != [2]int{8000, 8000} {
		t.Errorf("%+v", bare(g.d))
	}
}

// P17.2: a trigger that can't be afforded any more, as another one was paid for, is not asked for.
func TestWaitsLeft(t *testing.T) {
	pays := healing(api.If, api.EvSummon, 1)
	pays.Pay = 5000
	g := ready(t, sages(pays), []int{kin, kin}, nil)
	g.row(0, mine, mine+1)
	g.does(summon(0), pass, pass)
	g.asks(0, api.AtOrder, answer(mine, 0), answer(mine+1, 0), pass)
	g.leads(answer(mine, 0), func(d *api.Duel) {
		d.Waits, d.Ordered = nil, true
		d.Links = []api.Link{{Piece: mine, Speed: 1}}
		d.Table.Life[0] = 3000
		d.Table.Pieces[mine].Used = 1
		asked(d, 1)
	})
}

// P17.2: triggers of what a chain does make a round more; all of them come ahead of the window that is due.
func TestRounds(t *testing.T) {
	hurt := upon(api.Must, api.EvSummon, api.Any, step(api.StDamage, api.Theirs, 10))
	g := ready(t, sages(hurt, healing(api.Must, api.EvDamage, 1)), []int{kin}, nil)
	g.row(0, mine)
	g.does(summon(0), pass, pass, answer(mine, 0), pass, pass)
	if g.asks(0, api.AtOrder, answer(mine, 1)); g.d.Rounds != 2 || !g.d.Due {
		t.Errorf("%+v", bare(g.d))
	}
	g.does(answer(mine, 1), pass)
	g.leads(pass, func(d *api.Duel) {
		d.Table.Life[0]++
		d.Table.Moment++
		d.Links, d.Due = nil, false
		settles(d, api.ThenIdle)
		asked(d, 0)
	})
	g.does(pass)
	g.leads(pass, func(d *api.Duel) { d.Passes, d.Rounds, d.Stage = 2, 0, api.AtIdle })
}

// P0.4, P17.2: behind MaxRounds rounds it is over, and nobody wins.
func TestRoundsEnd(t *testing.T) {
	loop := upon(api.Must, api.EvDamage, api.Any, step(api.StDamage, api.Theirs, 1))
	never := healing(api.Play, api.EvNone, 1)
	kinds := sages(never, never, never, never, never, never, never, never, loop)
	g := ready(t, kinds, []int{kin, rain}, nil)
	g.row(0, mine)
	g.back(0, mine+1)
	g.does(play(mine+1, 0), pass, pass)
	for round := range api.MaxRounds {
		g.asks(0, api.AtOrder, answer(mine, 8))
		if g.d.Rounds != round+1 {
			t.Fatalf("%d rounds, not %d", g.d.Rounds, round+1)
		}
		g.does(answer(mine, 8), pass)
		if round+1 < api.MaxRounds {
			g.does(pass)
		}
	}
	g.leads(pass, func(d *api.Duel) {
		d.Passes, d.Links = 2, nil
		d.Table.Life[1]--
		happens(d, api.Event{Ev: api.EvDamage, Piece: -1, Who: 1})
		settles(d, api.ThenIdle)
		d.Waits = []api.Ready{{Piece: mine, Effect: 8, Must: true}}
		d.Stage, d.Reason, d.Winner = api.AtOver, api.ByRounds, 2
	})
	g.over(api.ByRounds, 2)
}

// P17.2: rounds count anew from each main phase and each battle on, but not from the end of a turn on.
func TestRoundsAnew(t *testing.T) {
	g := ready(t, sages(healing(api.Must, api.EvEnd, 1)), []int{kin, kin}, []int{rain})
	g.row(0, mine, mine+1)
	g.d.Rounds = 7
	g.does(end)
	if g.at(api.AtOrder); g.d.Rounds != 8 {
		t.Errorf("%d rounds", g.d.Rounds)
	}
	g.does(answer(mine, 0), answer(mine+1, 0), pass, pass, pass, pass)
	if g.at(api.AtIdle); g.d.Rounds != 0 || g.d.Table.Player != 1 {
		t.Errorf("%+v", bare(g.d))
	}
}

// A when that happened ahead of the last moment is missed; an if is not, nor is a must.
func TestMissed(t *testing.T) {
	two := api.Effect{Steps: []api.Step{step(api.StDamage, api.Theirs, 5), step(api.StHeal, api.Mine, 5)}}
	g := ready(t, append(sages(healing(api.When, api.EvDamage, 1), healing(api.If, api.EvDamage, 1), healing(api.Must, api.EvDamage, 1)), card("two", api.Spell, two)), []int{kin, kin + 1, rain}, nil)
	g.row(0, mine)
	g.back(0, mine+1, mine+2)
	again := duel.Copy(g.d)
	g.does(play(mine+1, 0), pass, pass)
	g.asks(0, api.AtOrder, answer(mine, 2))
	g.does(answer(mine, 2))
	g.asks(0, api.AtOrder, answer(mine, 1), pass)
	g.d = again
	g.does(play(mine+2, 0), pass, pass)
	g.does(answer(mine, 2))
	g.asks(0, api.AtOrder, answer(mine, 0), answer(mine, 1), pass)
}
