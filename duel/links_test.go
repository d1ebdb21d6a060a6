package duel_test

import (
	"slices"
	"testing"

	"joust/api"
	"joust/duel"
)

// P17.2: what is played is answered by the other one first, then by each in turn; two who pass bring the chain to its end, from its last link on.
func TestChain(t *testing.T) {
	g := ready(t, pool(), []int{rain, stop}, []int{stop, stop})
	g.put(mine, api.Hand, 0, false, false)
	g.back(0, mine+1)
	g.back(1, theirs, theirs+1)
	old := []api.Event{{Ev: api.EvDamage, Piece: -1, Who: 1}}
	g.d.Recent = old
	link := func(d *api.Duel, id int, who, speed uint8) {
		d.Table.Pieces[id].Up = true
		d.Links = append(d.Links, api.Link{Who: who, Piece: id, Speed: speed})
		asked(d, 1-who)
	}
	g.leads(play(mine, 0), func(d *api.Duel) {
		moved(d, mine, api.Back, 0, true, false)
		link(d, mine, 0, 1)
	})
	g.asks(1, api.AtAnswer, pass, answer(theirs, 0), answer(theirs+1, 0))
	g.leads(answer(theirs+1, 0), func(d *api.Duel) { link(d, theirs+1, 1, 3) })
	g.asks(0, api.AtAnswer, pass, answer(mine+1, 0))
	g.leads(pass, func(d *api.Duel) { d.Asked, d.Passes = 1, 1 })
	g.asks(1, api.AtAnswer, pass)
	g.leads(pass, func(d *api.Duel) {
		d.Passes, d.Links = 2, nil
		d.Table.Moment++
		moved(d, mine, api.Grave, 0, true, false)
		moved(d, theirs+1, api.Grave, 1, true, false)
		settles(d, api.ThenIdle)
		d.Stage = api.AtIdle
	})
	if g.d.Table.Life != [2]int{8000, 8000} || len(g.d.Recent) != 0 {
		t.Errorf("%+v", bare(g.d))
	}
}

// P17.2: a pass counts only till somebody answers: the other one may pass, and be asked again.
func TestPassAnew(t *testing.T) {
	g := ready(t, pool(), []int{rain, stop}, []int{stop, stop})
	g.back(0, mine, mine+1)
	g.back(1, theirs, theirs+1)
	g.does(play(mine, 0), pass)
	g.asks(0, api.AtAnswer, pass)
	g.does(pass)
	if g.d.Table.Life != [2]int{8000, 7500} {
		t.Errorf("life %v", g.d.Table.Life)
	}
	g = ready(t, append(pool(), unit("elf", 0, 0, upon(api.Swift, api.EvNone, api.Mine, step(api.StHeal, api.Mine, 1)))), []int{rain, kin}, []int{kin})
	g.back(0, mine)
	g.row(0, mine+1)
	g.row(1, theirs)
	g.does(play(mine, 0), pass)
	g.asks(0, api.AtAnswer, pass, answer(mine+1, 0))
	g.does(answer(mine+1, 0))
	if g.asks(1, api.AtAnswer, pass, answer(theirs, 0)); g.d.Passes != 0 {
		t.Errorf("%d passes", g.d.Passes)
	}
	g.does(pass)
	g.at(api.AtAnswer)
	g.does(pass)
	if g.at(api.AtIdle); g.d.Table.Life != [2]int{8001, 7500} {
		t.Errorf("life %v", g.d.Table.Life)
	}
}

// Three pieces are picked, one by one; none twice, none that may not be; then the effect is begun with them, as they were picked.
func TestPicks(t *testing.T) {
	all := picking(api.Effect{Mode: api.Act, Pay: 100, Steps: []api.Step{{Do: api.StDestroy}}}, 3)
	g := ready(t, sages(all), []int{kin}, nil)
	g.row(0, mine, 0, 1)
	g.row(1, first, first+1)
	ready := api.Ready{Piece: mine}
	g.leads(play(mine, 0), func(d *api.Duel) { d.Stage, d.Choice.Ready = api.AtPick, ready })
	g.asks(0, api.AtPick, pick(0), pick(1), pick(first), pick(first+1))
	g.leads(pick(first), func(d *api.Duel) { d.Choice.Picks = []int{first} })
	g.asks(0, api.AtPick, pick(0), pick(1), pick(first+1))
	g.leads(pick(0), func(d *api.Duel) { d.Choice.Picks = []int{first, 0} })
	g.asks(0, api.AtPick, pick(1), pick(first+1))
	g.leads(pick(first+1), func(d *api.Duel) {
		d.Choice = api.Choice{}
		d.Links = []api.Link{{Piece: mine, Picks: []int{first, 0, first + 1}, Speed: 1}}
		d.Table.Life[0] -= 100
		d.Table.Pieces[mine].Used = 1
		asked(d, 1)
	})
	g.does(pass, pass)
	if l := g.d.Recent; len(l) != 3 || l[0].Piece != first || l[1].Piece != 0 || l[2].Piece != first+1 || l[0].Who != 1 || l[1].Who != 0 {
		t.Errorf("Recent = %v", l)
	}
}

// P17.2: a trigger that picks is asked of the one whose it is; then ordering goes on.
func TestPicksOfOrder(t *testing.T) {
	e := picking(upon(api.Must, api.EvSummon, api.Theirs, api.Step{Do: api.StBounce}), 1)
	g := ready(t, sages(e), nil, []int{kin, kin})
	g.row(1, theirs, theirs+1)
	g.does(summon(0), pass, pass)
	both := []api.Ready{{Who: 1, Piece: theirs, Must: true}, {Who: 1, Piece: theirs + 1, Must: true}}
	g.asks(1, api.AtOrder, answer(theirs, 0), answer(theirs+1, 0))
	g.leads(answer(theirs+1, 0), func(d *api.Duel) {
		d.Stage, d.Ordered, d.Waits = api.AtPick, true, both[:1]
		d.Choice.Ready = both[1]
	})
	g.asks(1, api.AtPick, pick(theirs), pick(0))
	g.leads(pick(0), func(d *api.Duel) {
		d.Choice, d.Stage = api.Choice{}, api.AtOrder
		d.Links = []api.Link{{Who: 1, Piece: theirs + 1, Picks: []int{0}, Speed: 1}}
		d.Table.Pieces[theirs+1].Used = 1
	})
	g.does(answer(theirs, 0), pick(0))
	g.asks(0, api.AtAnswer, pass)
	g.does(pass, pass)
	if g.d.Table.Pieces[0].Zone != api.Hand || g.d.Table.Pieces[theirs].Zone != api.Row {
		t.Errorf("%+v", bare(g.d))
	}
}

// P17.2: what is activated in a main phase, or as an answer, is not one of an order, whatever was ahead.
func TestNotOrdered(t *testing.T) {
	g := ready(t, sages(healing(api.Must, api.EvSummon, 1)), []int{kin, gust}, []int{gust})
	g.row(0, mine, 5)
	g.back(0, mine+1)
	g.back(1, theirs)
	g.does(summon(0), pass, pass, answer(mine, 0))
	if !g.d.Ordered {
		t.Error("an order")
	}
	again := duel.Copy(g.d)
	g.does(answer(theirs, 0))
	if g.at(api.AtPick); g.d.Ordered || g.d.Choice.Ready != (api.Ready{Who: 1, Piece: theirs}) {
		t.Errorf("%+v", bare(g.d))
	}
	g.d = again
	g.does(pass, pass, pass, pass, play(mine+1, 0))
	if g.at(api.AtPick); g.d.Ordered || g.d.Choice.Ready != (api.Ready{Piece: mine + 1}) {
		t.Errorf("%+v", bare(g.d))
	}
}

// elves is the pool with a unit that has four swifts.
func elves() []api.Card {
	heal := upon(api.Swift, api.EvNone, api.Mine, step(api.StHeal, api.Mine, 1))
	return sages(heal, heal, heal, heal)
}

// P0.4, P17.2, P17.3: with MaxChain links the chain comes to its end at once.
func TestMaxChain(t *testing.T) {
	g := ready(t, elves(), []int{kin, kin, kin}, []int{kin, kin, kin})
	g.row(0, mine, mine+1, mine+2)
	g.row(1, theirs, theirs+1, theirs+2)
	for link := range api.MaxChain {
		id := mine + link/8
		if link%2 == 1 {
			id += theirs - mine
		}
		o := answer(id, link/2%4)
		if link == 0 {
			o.Do = api.OpPlay
		}
		if len(g.d.Links) != link {
			t.Fatalf("%d links, not %d", len(g.d.Links), link)
		}
		if link < api.MaxChain-1 {
			g.does(o)
			continue
		}
		g.leads(o, func(d *api.Duel) {
			d.Table.Pieces[id].Used |= 8
			d.Links = nil
			d.Table.Life = [2]int{8008, 8008}
			d.Table.Moment += api.MaxChain
			settles(d, api.ThenIdle)
			d.Stage = api.AtIdle
		})
	}
}

// P17.2: with MaxChain links of an order what waits is let go.
func TestMaxChainOfOrder(t *testing.T) {
	heal := healing(api.Must, api.EvSummon, 1)
	g := ready(t, sages(heal, heal, heal, heal), []int{kin, kin, kin, kin}, []int{kin})
	g.row(0, mine, mine+1, mine+2, mine+3)
	g.row(1, theirs)
	g.does(summon(0), pass, pass)
	for range api.MaxChain - 1 {
		g.at(api.AtOrder)
		g.decide(0)
	}
	last := g.d.Waits[0]
	if len(g.d.Waits) != 5 || len(g.d.Links) != api.MaxChain-1 {
		t.Fatalf("%+v", bare(g.d))
	}
	g.leads(answer(last.Piece, last.Effect), func(d *api.Duel) {
		d.Table.Pieces[last.Piece].Used |= 1 << last.Effect
		d.Links, d.Waits, d.Due = nil, nil, false
		d.Table.Life[0] += api.MaxChain
		d.Table.Moment += api.MaxChain
		settles(d, api.ThenIdle)
		asked(d, 0)
	})
}

// P17.2: what waits is let go with the chain that is full, also where it is over then.
func TestMaxChainOver(t *testing.T) {
	hurt := upon(api.Must, api.EvSummon, api.Any, step(api.StDamage, api.Theirs, 500))
	g := ready(t, sages(hurt, hurt, hurt, hurt), []int{kin, kin, kin, kin, kin}, nil)
	g.row(0, mine, mine+1, mine+2, mine+3)
	g.put(mine+4, api.Hand, 0, false, false)
	g.does(summon(mine+4), pass, pass)
	for g.d.Stage == api.AtOrder {
		g.decide(0)
	}
	g.over(api.ByLife, 0)
	if len(g.d.Waits) > 0 || len(g.d.Links) > 0 || len(g.d.Table.Events) != api.MaxChain || !g.d.Due {
		t.Errorf("%+v", bare(g.d))
	}
}

// A card that was picked went elsewhere: the step is not about it.
func TestPickedGone(t *testing.T) {
	g := ready(t, append(pool(), card("bolt", api.Spell, picking(api.Effect{Steps: []api.Step{{Do: api.StDestroy}}}, 1))), []int{kin}, []int{gust})
	g.row(0, 0)
	g.row(1, first)
	g.back(0, mine)
	g.back(1, theirs)
	g.does(play(mine, 0), pick(first), answer(theirs, 0), pick(first), pass, pass)
	if p := g.d.Table.Pieces[first]; p.Zone != api.Hand || len(g.d.Recent) != 0 {
		t.Errorf("%+v, %v", p, g.d.Recent)
	}
}

// P17.2: if the beginning is refused, as the table is another one, no link comes, and the other one is asked.
func TestRefused(t *testing.T) {
	g := ready(t, pool(), []int{gust}, nil)
	g.row(0, 0)
	g.row(1, first)
	g.back(0, mine)
	g.does(play(mine, 0))
	g.d.Table.Pieces[mine].Has, g.d.Table.Pieces[mine].Owner = 1, 1
	g.leads(pick(0), func(d *api.Duel) {
		d.Choice = api.Choice{}
		asked(d, 1)
	})
	g.does(pass, pass)
	g.at(api.AtIdle)
	g = ready(t, sages(picking(healing(api.Must, api.EvSummon, 1), 1)), []int{kin, kin}, nil)
	g.row(0, mine, mine+1)
	g.does(summon(0), pass, pass, answer(mine, 0))
	g.d.Table.Pieces[mine].Used = 1
	g.leads(pick(0), func(d *api.Duel) { d.Choice, d.Stage = api.Choice{}, api.AtOrder })
	g.asks(0, api.AtOrder, answer(mine+1, 0))
	g.does(answer(mine+1, 0))
	if !slices.Contains(duel.Ask(g.d).Options, pick(mine)) {
		t.Errorf("%+v", duel.Ask(g.d))
	}
}
