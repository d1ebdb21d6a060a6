package duel_test

import (
	"slices"
	"testing"

	"joust/api"
	"joust/board"
	"joust/duel"
)

// ended is the duel behind the end of a turn, ahead of its window.
func ended(d *api.Duel) {
	happens(d, api.Event{Ev: api.EvEnd, Piece: -1, Who: d.Table.Player})
	settles(d, api.ThenDrop)
	asked(d, d.Table.Player)
}

// next is the duel behind the last turn's window, in the other one's main phase.
func next(d *api.Duel) {
	d.Passes = 2
	settles(d, api.ThenDrop)
	for i := range d.Table.Pieces {
		p := &d.Table.Pieces[i]
		p.Boost, p.Used, p.Struck, p.Turned = 0, 0, false, false
	}
	d.Table.Turn++
	d.Table.Player = 1 - d.Table.Player
	moved(d, board.In(d.Table, d.Table.Player, api.Deck)[0], api.Hand, d.Table.Player, false, false)
	d.Table.Moment++
	happens(d, api.Event{Ev: api.EvStandby, Piece: -1, Who: d.Table.Player})
	settles(d, api.ThenIdle)
	d.Second, d.Summoned, d.Rounds, d.Stage = false, false, 0, api.AtIdle
}

// P17.2: the end of a turn has a window, of the one whose turn it is first; then the other one draws, and nothing is left of this turn.
func TestTurnEnds(t *testing.T) {
	g := ready(t, pool(), nil, nil)
	g.row(0, 0, 1)
	g.row(1, first)
	g.d.Second, g.d.Summoned = true, true
	for _, id := range []int{0, first, 5, theirs} {
		p := &g.d.Table.Pieces[id]
		p.Boost, p.Used, p.Struck, p.Turned, p.Low = 50-id, 7, true, true, p.Zone == api.Row
	}
	g.leads(end, ended)
	g.asks(0, api.AtAnswer, pass)
	g.leads(pass, func(d *api.Duel) { d.Asked, d.Passes = 1, 1 })
	g.asks(1, api.AtAnswer, pass)
	g.leads(pass, next)
	if p := g.d.Table.Pieces; !p[0].Low || !p[first].Low || g.d.Table.Turn != 4 || g.d.Table.Player != 1 || g.d.Table.Pieces[0].Since != 1 {
		t.Errorf("%+v", bare(g.d))
	}
	g.leads(end, ended)
	g.does(pass)
	g.leads(pass, next)
	if g.d.Table.Turn != 5 || g.d.Table.Player != 0 {
		t.Errorf("%+v", bare(g.d))
	}
}

// P17.2: who has more than six cards in hand drops them, one by one, till there are six.
func TestDrop(t *testing.T) {
	g := ready(t, pool(), []int{rain, stop, imp}, nil)
	for _, id := range []int{mine, mine + 1, mine + 2} {
		g.put(id, api.Hand, 0, false, false)
	}
	drops := func(ids ...int) (l []api.Option) {
		for _, id := range ids {
			l = append(l, option(api.OpDrop, id, -1))
		}
		return l
	}
	g.does(end, pass)
	g.leads(pass, func(d *api.Duel) {
		d.Passes = 2
		settles(d, api.ThenDrop)
		d.Stage = api.AtDrop
	})
	g.asks(0, api.AtDrop, drops(0, 1, 2, 3, 4, mine, mine+1, mine+2)...)
	g.leads(drops(3)[0], func(d *api.Duel) { moved(d, 3, api.Grave, 0, true, false) })
	g.asks(0, api.AtDrop, drops(0, 1, 2, 4, mine, mine+1, mine+2)...)
	g.leads(drops(mine + 1)[0], func(d *api.Duel) {
		moved(d, mine+1, api.Grave, 0, true, false)
		next(d)
	})
	if n := len(board.In(g.d.Table, 0, api.Hand)); n != 6 {
		t.Errorf("%d in hand", n)
	}
	g.does(end, pass, pass)
	if g.at(api.AtIdle); len(board.In(g.d.Table, 1, api.Hand)) != 6 || g.d.Table.Player != 0 {
		t.Errorf("six were too many: %+v", bare(g.d))
	}
}

// P17.2: what is set, laid or turned can't be answered; OpSet counts as a summon, and so does no other.
func TestSetLayTurn(t *testing.T) {
	g := ready(t, pool(), []int{rain}, nil)
	g.put(mine, api.Hand, 0, false, false)
	g.row(0, 7)
	g.d.Recent = []api.Event{{Ev: api.EvDamage}}
	g.leads(option(api.OpLay, mine, -1), func(d *api.Duel) {
		moved(d, mine, api.Back, 0, false, false)
		settles(d, api.ThenIdle)
	})
	g.leads(option(api.OpTurn, 7, -1), func(d *api.Duel) { d.Table.Pieces[7].Low, d.Table.Pieces[7].Turned = true, true })
	g.leads(option(api.OpSet, 1, -1), func(d *api.Duel) {
		moved(d, 1, api.Row, 0, false, true)
		d.Summoned = true
	})
	g.asks(0, api.AtIdle, play(mine, 0), battle, end)
}

// P17.2: a battle is over as one says so, and the second main phase comes; there what was summoned counts still.
func TestPhases(t *testing.T) {
	g := ready(t, pool(), nil, nil)
	g.d.Rounds = 5
	g.leads(battle, func(d *api.Duel) {
		settles(d, api.ThenBattle)
		d.Stage, d.Rounds = api.AtBattle, 0
	})
	g.asks(0, api.AtBattle, end)
	g.d.Rounds = 6
	g.leads(end, func(d *api.Duel) {
		settles(d, api.ThenIdle)
		d.Stage, d.Second, d.Rounds = api.AtIdle, true, 0
	})
	if l := duel.Ask(g.d).Options; slices.Contains(l, battle) || !slices.Contains(l, summon(0)) || !slices.Contains(l, end) {
		t.Errorf("options %v", l)
	}
	g.does(summon(0), pass, pass, pass, pass)
	g.asks(0, api.AtIdle, end)
	g.does(end, pass, pass)
	if l := duel.Ask(g.d).Options; g.d.Second || g.d.Summoned || !slices.Contains(l, battle) || !slices.Contains(l, summon(first)) {
		t.Errorf("options %v", l)
	}
}

// P0.4, P17.2: behind MaxTurns turns it is over, and nobody wins; what the turn was stays.
func TestTurnsEnd(t *testing.T) {
	for _, c := range []struct {
		turn int
		over bool
	}{{api.MaxTurns - 1, false}, {api.MaxTurns, true}} {
		g := ready(t, pool(), nil, nil)
		g.d.Table.Turn = c.turn
		g.does(summon(0), pass, pass, pass, pass, end, pass)
		want := duel.Copy(g.d)
		g.does(pass)
		if !c.over {
			g.at(api.AtIdle)
			continue
		}
		want.Passes, want.Table.Turn, want.Table.Player = 2, api.MaxTurns+1, 1
		want.Recent, want.Stage, want.Reason, want.Winner = nil, api.AtOver, api.ByTurns, 2
		g.same(want)
		g.over(api.ByTurns, 2)
	}
}

// P17.2: each option that is asked for can be decided, and no other number; what is refused changes nothing.
func TestNumbers(t *testing.T) {
	g := ready(t, pool(), []int{rain, gust}, nil)
	g.put(mine, api.Hand, 0, false, false)
	g.put(mine+1, api.Hand, 0, false, false)
	g.row(0, 5)
	options := duel.Ask(g.d).Options
	for n := -3; n < len(options)+4; n++ {
		d, e := duel.Decide(g.d, n)
		if n < 0 || n >= len(options) {
			if e != api.ErrArg || !duel.Same(d, g.d) {
				t.Errorf("Decide(%d) = %d", n, e)
			}
		} else if e != api.OK || duel.Same(d, g.d) {
			t.Errorf("Decide(%d) = %d, of %v", n, e, options[n])
		}
	}
	for _, n := range []int{-1 << 63, 1<<63 - 1} {
		if d, e := duel.Decide(g.d, n); e != api.ErrArg || !duel.Same(d, g.d) {
			t.Errorf("Decide(%d) = %d", n, e)
		}
	}
}
