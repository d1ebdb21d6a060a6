package duel_test

import (
	"slices"
	"testing"

	"joust/api"
	"joust/board"
	"joust/duel"
)

// fought is a duel that is ready, with an ogre of 0's in the Row, Up.
func fought(t *testing.T, kinds []api.Card, own, others []int) *game {
	t.Helper()
	g := ready(t, kinds, own, others)
	g.row(0, 0)
	return g
}

// struck is the duel behind an attack, ahead of its window.
func struck(d *api.Duel, a, at int) {
	d.Table.Pieces[a].Struck = true
	d.Attacker, d.Target = a, at
	happens(d, api.Event{Ev: api.EvAttack, Piece: a, Who: d.Table.Player})
	settles(d, api.ThenStrike)
	asked(d, d.Table.Player)
}

// clash is the duel behind the window of an attack, in the battle again: whose harm, who dies.
func clash(d *api.Duel, who uint8, harm int, dies ...int) {
	d.Passes = 2
	if d.Target >= 0 {
		d.Table.Pieces[d.Target].Up = true
	}
	if harm > 0 {
		d.Table.Life[who] -= harm
		d.Table.Moment++
	}
	var l []api.Event
	for _, id := range dies {
		l = append(l, api.Event{Ev: api.EvDestroy, Piece: id, Who: d.Table.Pieces[id].Has})
		moved(d, id, api.Grave, 0, true, false)
	}
	if len(l) > 0 {
		happens(d, l...)
	}
	settles(d, api.ThenBattle)
	d.Attacker, d.Target, d.Stage, d.Rounds = -1, -1, api.AtBattle, 0
}

// P17.2: an attack has a window, of the one whose turn it is first; then what the fight comes to is taken off the life, and then those that die are destroyed.
func TestFights(t *testing.T) {
	for what, c := range map[string]struct {
		target      api.Piece
		attack      int
		guard       int
		harmed      uint8
		harm        int
		dies, falls bool
	}{
		"a weaker one":           {api.Piece{Up: true}, 1500, 9000, 1, 300, true, false},
		"a stronger one":         {api.Piece{Up: true}, 2000, 0, 0, 200, false, true},
		"an equal one":           {api.Piece{Up: true}, 1800, 0, 0, 0, true, true},
		"a weak guard":           {api.Piece{Up: true, Low: true}, 9000, 1799, 0, 0, true, false},
		"a strong guard":         {api.Piece{Up: true, Low: true}, 0, 1900, 0, 100, false, false},
		"an equal guard":         {api.Piece{Up: true, Low: true}, 0, 1800, 0, 0, false, false},
		"a weak hidden guard":    {api.Piece{Low: true}, 9000, 1000, 0, 0, true, false},
		"a strong hidden guard":  {api.Piece{Low: true}, 0, 2800, 0, 1000, false, false},
		"a hidden one, not low":  {api.Piece{}, 1700, 5000, 1, 100, true, false},
		"all that one has":       {api.Piece{Up: true}, 9800, 0, 0, 8000, false, true},
		"all that the other has": {api.Piece{Up: true, Low: true}, 0, 9800, 0, 8000, false, false},
	} {
		g := fought(t, pool(), nil, nil)
		g.put(first, api.Row, 1, c.target.Up, c.target.Low)
		g.d.Table.Pieces[first].Attack, g.d.Table.Pieces[first].Guard = c.attack, c.guard
		g.does(battle)
		g.asks(0, api.AtBattle, attack(0, first), end)
		g.leads(attack(0, first), func(d *api.Duel) { struck(d, 0, first) })
		g.asks(0, api.AtAnswer, pass)
		g.leads(pass, func(d *api.Duel) { d.Asked, d.Passes = 1, 1 })
		g.asks(1, api.AtAnswer, pass)
		if c.harm == 8000 {
			g.does(pass)
			g.over(api.ByLife, 1)
			continue
		}
		t.Run(what, func(t *testing.T) {
			g := &game{t, g.d}
			var dies []int
			if c.falls {
				dies = append(dies, 0)
			}
			if c.dies {
				dies = append(dies, first)
			}
			g.leads(pass, func(d *api.Duel) { clash(d, c.harmed, c.harm, dies...) })
			g.asks(0, api.AtBattle, end)
		})
	}
}

// P17.2: nobody is attacked where there is nobody; each piece attacks once.
func TestDirect(t *testing.T) {
	g := fought(t, pool(), nil, nil)
	g.row(0, 1)
	g.d.Table.Life[1] = 3700
	g.does(battle)
	g.asks(0, api.AtBattle, attack(0, -1), attack(1, -1), end)
	g.leads(attack(1, -1), func(d *api.Duel) { struck(d, 1, -1) })
	g.does(pass)
	g.leads(pass, func(d *api.Duel) { clash(d, 1, 1800) })
	g.asks(0, api.AtBattle, attack(0, -1), end)
	g.does(attack(0, -1), pass, pass)
	g.asks(0, api.AtBattle, end)
	g.does(end, end, pass, pass, end, pass, pass)
	g.does(battle, attack(1, -1), pass)
	want := duel.Copy(g.d)
	g.does(pass)
	want.Passes, want.Table.Life[1] = 2, 0
	settles(&want, api.ThenDeaths)
	happens(&want, api.Event{Ev: api.EvDamage, Piece: -1, Who: 1})
	want.Stage, want.Reason, want.Winner = api.AtOver, api.ByLife, 0
	g.same(want)
	g.over(api.ByLife, 0)
}

// missed is the duel behind the window of an attack that comes to nothing.
func missed(d *api.Duel) {
	d.Attacker, d.Target, d.Stage, d.Rounds = -1, -1, api.AtBattle, 0
}

// P17.2: an attacker that is bounced in the window, or a target, or one who is there newly: nobody fights, but it attacked.
func TestNoFight(t *testing.T) {
	quick := func(name string, s api.Step) api.Card {
		return card(name, api.Quick, picking(api.Effect{Steps: []api.Step{s}}, 1))
	}
	kinds := append(pool(), card("call", api.Quick, api.Effect{Steps: []api.Step{step(api.StToken, api.Mine, 9)}}), quick("kill", api.Step{Do: api.StDestroy}), card("fall", api.Quick, api.Effect{Steps: []api.Step{step(api.StHeal, api.Mine, 1)}}))
	for what, c := range map[string]struct {
		played int
		about  int
		target int
		missed bool
	}{
		"the attacker is bounced":   {gust, 0, first, true},
		"the target is bounced":     {gust, first, first, true},
		"another one is bounced":    {gust, first + 1, first, false},
		"the attacker is destroyed": {kin + 1, 0, first, true},
		"the target is destroyed":   {kin + 1, first, first, true},
		"somebody is there":         {kin, -1, -1, true},
		"somebody else is there":    {kin, -1, first, false},
		"nothing":                   {kin + 2, -1, -1, false},
	} {
		g := fought(t, kinds, nil, []int{c.played})
		g.back(1, theirs)
		if c.target >= 0 {
			g.row(1, first, first+1)
			g.d.Table.Pieces[first].Attack = 100
		}
		g.does(battle, attack(0, c.target), pass, answer(theirs, 0))
		if c.about >= 0 {
			g.does(pick(c.about))
		}
		g.does(pass)
		if g.at(api.AtAnswer); g.d.Attacker != 0 || g.d.Target != c.target || g.d.Due {
			t.Errorf("%s: %+v", what, bare(g.d))
		}
		g.does(pass)
		g.at(api.AtBattle)
		if missed := g.d.Then == api.ThenStrike; missed != c.missed || missed == (g.d.Table.Life[1] < 8000) || g.d.Attacker != -1 || g.d.Target != -1 {
			t.Errorf("%s: %+v", what, bare(g.d))
		}
		if p := g.d.Table.Pieces[0]; p.Zone == api.Row && !p.Struck || slices.ContainsFunc(duel.Ask(g.d).Options, func(o api.Option) bool { return o.Do == api.OpAttack }) {
			t.Errorf("%s: %+v", what, duel.Ask(g.d))
		}
	}
}

// P17.2: an attacker that is face down, Low, or the other one's when it would strike doesn't.
func TestNoStriker(t *testing.T) {
	for i, change := range []func(g *game){
		func(g *game) { g.d.Table.Pieces[0].Up = false },
		func(g *game) { g.d.Table.Pieces[0].Low = true },
		func(g *game) { g.put(0, api.Row, 1, true, false) },
		func(g *game) { g.put(0, api.Exile, 1, true, false) },
		func(g *game) { g.put(first, api.Row, 0, true, false) },
		func(g *game) { g.put(first, api.Hand, 0, true, false) },
		func(g *game) { g.d.Target = -1 },
	} {
		g := fought(t, pool(), nil, nil)
		g.row(1, first)
		g.does(battle, attack(0, first), pass)
		change(g)
		g.leads(pass, func(d *api.Duel) {
			d.Passes = 2
			settles(d, api.ThenStrike)
			missed(d)
		})
		if g.d.Table.Life != [2]int{8000, 8000} || g.d.Then != api.ThenStrike {
			t.Errorf("%d: %+v", i, bare(g.d))
		}
	}
}

// P17.2: who was to die, and left the Row when the harm was answered, is not destroyed; who was exchanged for it is not, either.
func TestNotDead(t *testing.T) {
	save := upon(api.Must, api.EvDamage, api.Mine, api.Step{Do: api.StBounce})
	g := fought(t, sages(picking(save, 1)), nil, []int{kin})
	g.row(1, theirs, first)
	g.d.Table.Pieces[first].Attack = 1000
	g.does(battle, attack(0, first), pass, pass)
	g.asks(1, api.AtOrder, answer(theirs, 0))
	if g.d.Attacker != 0 || g.d.Target != first || !slices.Equal(g.d.Dies, []int{first}) || g.d.Then != api.ThenDeaths {
		t.Errorf("%+v", bare(g.d))
	}
	again := duel.Copy(g.d)
	g.does(answer(theirs, 0), pick(first), pass)
	g.leads(pass, func(d *api.Duel) {
		d.Passes, d.Links, d.Dies = 2, nil, nil
		moved(d, first, api.Hand, 1, false, false)
		d.Table.Moment++
		settles(d, api.ThenBattle)
		missed(d)
	})
	g.d = again
	g.does(answer(theirs, 0), pick(0), pass, pass)
	if g.at(api.AtBattle); g.d.Table.Pieces[first].Zone != api.Grave || g.d.Table.Pieces[0].Zone != api.Hand {
		t.Errorf("%+v", bare(g.d))
	}
}

// P17.2: two who die are destroyed at one moment, the attacker first, each of the one who had it; what must come of that is ahead of what may.
func TestBothDie(t *testing.T) {
	kinds := sages(healing(api.If, api.EvDestroy, 1))
	kinds = append(kinds, unit("wake", 1800, 0, upon(api.Must, api.EvDestroy, api.Self, step(api.StHeal, api.Mine, 5))))
	g := fought(t, kinds, []int{kin}, []int{kin + 1})
	g.row(0, mine)
	g.row(1, theirs)
	g.does(battle, attack(0, theirs), pass)
	g.leads(pass, func(d *api.Duel) {
		clash(d, 0, 0, 0, theirs)
		d.Stage, d.Rounds = api.AtOrder, 1
		d.Waits = []api.Ready{{Who: 1, Piece: theirs, Must: true}, {Piece: mine}}
	})
	g.asks(1, api.AtOrder, answer(theirs, 0))
	if l := g.d.Recent; len(l) != 2 || l[0].Moment != l[1].Moment || l[0].Piece != 0 || l[0].Who != 0 || l[1].Piece != theirs || l[1].Who != 1 {
		t.Errorf("Recent = %v", l)
	}
	g.does(answer(theirs, 0))
	g.asks(0, api.AtOrder, answer(mine, 0), pass)
	g.does(answer(mine, 0))
	g.asks(1, api.AtAnswer, pass)
	g.does(pass, pass)
	g.asks(0, api.AtBattle, attack(mine, -1), end)
	if g.d.Table.Life != [2]int{8001, 8005} {
		t.Errorf("life %v", g.d.Table.Life)
	}
}

// P17.2: a target that is laid open by the attack strengthens its own row.
func TestLaidOpen(t *testing.T) {
	aura := api.Effect{Mode: api.Aura, Steps: []api.Step{{Do: api.StBoost, N: num(700), All: true, Sel: api.Sel{Side: api.Mine, Zone: api.Row}}}}
	g := fought(t, sages(aura), nil, []int{kin})
	g.put(theirs, api.Row, 1, false, false)
	g.d.Table.Pieces[theirs].Attack = 1200
	g.does(battle, attack(0, theirs), pass, pass)
	if g.at(api.AtBattle); g.d.Table.Life != [2]int{7900, 8000} || g.d.Table.Pieces[0].Zone != api.Grave || !g.d.Table.Pieces[theirs].Up {
		t.Errorf("%+v", bare(g.d))
	}
}

// P17.2: a piece of the other one's that attacks, or is attacked, goes to its owner's grave, though it is destroyed of the one who had it.
func TestOwners(t *testing.T) {
	g := ready(t, pool(), nil, nil)
	g.row(0, first)
	g.row(1, 0)
	g.does(battle, attack(first, 0), pass)
	g.leads(pass, func(d *api.Duel) { clash(d, 0, 0, first, 0) })
	p := g.d.Table.Pieces
	if p[0].Has != 0 || p[first].Has != 1 || !slices.Equal(board.In(g.d.Table, 1, api.Grave), []int{first}) {
		t.Errorf("%+v", bare(g.d))
	}
}
