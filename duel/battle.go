package duel

import (
	"slices"

	"joust/api"
	"joust/board"
	"joust/fight"
)

func (g *game) battle() {
	g.Rounds = 0
	g.Stage = api.AtBattle
}

// strike lets the attacker fight, if it still can, against what it attacked.
func (g *game) strike() {
	if !g.canStrike() {
		g.Attacker, g.Target = none, none
		g.battle()
		return
	}
	if g.Target != none {
		g.Table.Pieces[g.Target].Up = true
	}
	harm, dies, e := fight.Outcome(g.Table, g.Attacker, g.Target)
	must(e)
	g.harm(harm)
	g.Dies = dies
	g.settle(api.ThenDeaths)
}

// canStrike is no, too, where nobody was attacked, and now somebody is there.
func (g *game) canStrike() bool {
	who := g.Table.Player
	if !slices.Contains(board.In(g.Table, who, api.Row), g.Attacker) {
		return false
	}
	a, against := g.Table.Pieces[g.Attacker], board.In(g.Table, other(who), api.Row)
	if !a.Up || a.Low {
		return false
	}
	if g.Target == none {
		return len(against) == 0
	}
	return slices.Contains(against, g.Target)
}

// harm takes off each one's life, at one moment for both.
func (g *game) harm(harm [2]int) {
	var happened []api.Event
	for who, n := range harm {
		if n != 0 {
			g.Table.Life[who] = max(g.Table.Life[who]-n, 0)
			happened = append(happened, api.Event{Ev: api.EvDamage, Piece: none, Who: uint8(who)})
		}
	}
	g.happen(happened...)
}

// deaths are all at one moment. Who went elsewhere since does not die.
func (g *game) deaths() {
	var happened []api.Event
	for _, id := range g.Dies {
		if g.isIn(id, api.Row) {
			happened = append(happened, api.Event{Ev: api.EvDestroy, Piece: id, Who: g.Table.Pieces[id].Has})
			g.bury(id)
		}
	}
	g.happen(happened...)
	g.Dies, g.Attacker, g.Target = nil, none, none
	g.settle(api.ThenBattle)
}
