package duel_test

import (
	"slices"
	"testing"

	"joust/api"
	"joust/board"
	"joust/duel"
)

// tried is the duel behind a summon that is begun.
func tried(d *api.Duel, id int) {
	moved(d, id, api.Limbo, d.Table.Player, true, false)
	d.Summoned, d.Try, d.Trying, d.Negated, d.Then = true, id, true, false, api.ThenPlace
	d.Table.Events = nil
	happens(d, api.Event{Ev: api.EvTry, Piece: id, Who: d.Table.Player})
	d.Recent, d.Table.Events = d.Table.Events, nil
	asked(d, 1-d.Table.Player)
}

// placed is the duel behind that, when the unit lies in the Row, and its window is open.
func placed(d *api.Duel, id int) {
	d.Trying, d.Try, d.Negated = false, -1, false
	moved(d, id, api.Row, d.Table.Player, true, false)
	happens(d, api.Event{Ev: api.EvSummon, Piece: id, Who: d.Table.Player})
	settles(d, api.ThenIdle)
	asked(d, d.Table.Player)
}

// failed is the duel behind that, when the unit goes to the grave instead.
func failed(d *api.Duel, id int) {
	d.Trying, d.Try, d.Negated = false, -1, false
	moved(d, id, api.Grave, d.Table.Player, true, false)
	happens(d, api.Event{Ev: api.EvDestroy, Piece: id, Who: d.Table.Player})
	settles(d, api.ThenIdle)
	d.Stage, d.Rounds = api.AtIdle, 0
}

// P17.2: a summon is answered while the unit is in Limbo, by the other one first; then it is there, and that is answered, by the one whose turn it is first.
func TestSummon(t *testing.T) {
	g := ready(t, pool(), nil, nil)
	for _, id := range []int{0, first} {
		g.d.Rounds, g.d.Table.Events = 9, []api.Event{{Ev: api.EvDestroy}}
		g.leads(summon(id), func(d *api.Duel) { tried(d, id) })
		who := g.d.Table.Player
		g.asks(1-who, api.AtAnswer, pass)
		g.leads(pass, func(d *api.Duel) { d.Asked, d.Passes = who, 1 })
		g.leads(pass, func(d *api.Duel) {
			d.Passes = 2
			placed(d, id)
		})
		g.asks(who, api.AtAnswer, pass)
		g.leads(pass, func(d *api.Duel) { d.Asked, d.Passes = 1-who, 1 })
		g.leads(pass, func(d *api.Duel) {
			d.Passes = 2
			settles(d, api.ThenIdle)
			d.Stage, d.Rounds = api.AtIdle, 0
		})
		g.does(end, pass, pass)
	}
}

// P17.2: what is given up for a great unit is gone at once, and sets nothing off: neither now nor when the summon is over.
func TestGivenUp(t *testing.T) {
	kinds := append(pool(), unit("vow", 0, 0, upon(api.Must, api.EvDestroy, api.Any, step(api.StHeal, api.Mine, 9)), upon(api.If, api.EvDestroy, api.Self, step(api.StHeal, api.Mine, 9))))
	g := ready(t, kinds, []int{kin, lord, kin}, nil)
	g.put(mine+1, api.Hand, 0, false, false)
	g.row(0, mine, mine+2)
	g.leads(option(api.OpSummon, mine+1, mine), func(d *api.Duel) {
		moved(d, mine, api.Grave, 0, true, false)
		tried(d, mine+1)
	})
	g.does(pass, pass, pass, pass)
	if g.at(api.AtIdle); g.d.Table.Life != [2]int{8000, 8000} || g.d.Table.Pieces[mine+1].Zone != api.Row {
		t.Errorf("%+v", bare(g.d))
	}
	g = ready(t, kinds, []int{kin, lord, kin}, nil)
	g.put(mine+1, api.Hand, 0, false, false)
	g.row(0, mine, mine+2)
	g.does(option(api.OpSet, mine+1, mine+2))
	if g.at(api.AtIdle); g.d.Table.Life != [2]int{8000, 8000} || g.d.Table.Pieces[mine+2].Zone != api.Grave || g.d.Table.Pieces[mine+1].Up {
		t.Errorf("%+v", bare(g.d))
	}
}

// P17.2: a summon that is negated: the unit is destroyed, there is no window, and the summon of the turn is used up.
func TestNegate(t *testing.T) {
	g := ready(t, pool(), []int{stop}, []int{bar, gust, stop, bar})
	g.back(1, theirs, theirs+1, theirs+2, theirs+3)
	g.back(0, mine)
	g.leads(summon(0), func(d *api.Duel) { tried(d, 0) })
	g.asks(1, api.AtAnswer, pass, answer(theirs, 0), answer(theirs+3, 0))
	g.does(answer(theirs+3, 0))
	g.asks(0, api.AtAnswer, pass, answer(mine, 0))
	g.does(pass)
	g.asks(1, api.AtAnswer, pass, answer(theirs, 0))
	g.leads(pass, func(d *api.Duel) {
		d.Passes, d.Links = 2, nil
		d.Table.Moment++
		moved(d, theirs+3, api.Grave, 1, true, false)
		failed(d, 0)
	})
	if l := duel.Ask(g.d).Options; slices.Contains(l, summon(1)) {
		t.Errorf("a second summon: %v", l)
	}
}

// P17.2: a negate that is negated lets the summon be: the unit comes, with its window.
func TestNegatedNegate(t *testing.T) {
	g := ready(t, pool(), []int{stop}, []int{bar})
	g.back(1, theirs)
	g.back(0, mine)
	g.does(summon(0), answer(theirs, 0), answer(mine, 0), pass)
	g.leads(pass, func(d *api.Duel) {
		d.Passes, d.Links = 2, nil
		d.Table.Moment++
		moved(d, theirs, api.Grave, 1, true, false)
		moved(d, mine, api.Grave, 0, true, false)
		placed(d, 0)
	})
}

// P17.2: a summon in time after one that was negated is not negated.
func TestNegatedOnce(t *testing.T) {
	g := ready(t, pool(), nil, []int{bar})
	g.back(1, theirs)
	g.does(summon(0), answer(theirs, 0), pass, pass)
	for range 2 {
		g.does(end, pass, pass)
	}
	g.does(summon(1), pass, pass)
	if g.d.Negated || g.d.Table.Pieces[1].Zone != api.Row {
		t.Errorf("%+v", bare(g.d))
	}
}

// P17.2: what would negate a summon negates nothing where none is under way.
func TestNothingNegated(t *testing.T) {
	g := ready(t, sages(upon(api.Swift, api.EvTry, api.Any, api.Step{Do: api.StNegate})), []int{kin}, nil)
	g.row(0, mine)
	g.does(end, answer(mine, 0), pass, pass)
	if g.d.Negated || g.d.Table.Player != 1 {
		t.Errorf("%+v", bare(g.d))
	}
}

// P17.2: where no place is free any more, the unit goes to the grave, though nobody negated that.
func TestNoRoom(t *testing.T) {
	g := ready(t, pool(), nil, []int{rush})
	g.back(1, theirs)
	g.row(0, 5, 6, 7, 8)
	g.does(summon(0), answer(theirs, 0), pass, pass)
	if l := board.In(g.d.Table, 0, api.Row); len(l) != 5 || g.d.Table.Pieces[0].Zone != api.Grave || g.d.Stage != api.AtIdle || g.d.Due {
		t.Errorf("%+v", bare(g.d))
	}
	if l := g.d.Recent; len(l) != 1 || l[0].Ev != api.EvDestroy || l[0].Piece != 0 || l[0].Who != 0 || l[0].Moment != g.d.Table.Moment {
		t.Errorf("Recent = %v", l)
	}
}

// P17.2: what comes of a chain upon a summon sets triggers off ahead of the unit's coming; it is in Limbo still.
func TestTriggersWhileTrying(t *testing.T) {
	kinds := append(pool(), unit("sage", 0, 0, upon(api.Must, api.EvSummon, api.Any, step(api.StHeal, api.Mine, 100))))
	g := ready(t, kinds, []int{kin}, []int{rush, bar})
	g.row(0, mine)
	g.back(1, theirs)
	g.does(summon(0), answer(theirs, 0), pass, pass)
	g.asks(0, api.AtOrder, answer(mine, 0))
	if !g.d.Trying || g.d.Try != 0 || g.d.Then != api.ThenPlace || g.d.Rounds != 1 || len(g.d.Links) != 0 {
		t.Errorf("%+v", bare(g.d))
	}
	g.does(answer(mine, 0), pass, pass)
	g.at(api.AtAnswer)
	if g.d.Trying || g.d.Try != -1 || g.d.Table.Pieces[0].Zone != api.Row || g.d.Table.Life[0] != 8100 {
		t.Errorf("%+v", bare(g.d))
	}
}
