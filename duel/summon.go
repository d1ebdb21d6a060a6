package duel

import (
	"joust/api"
	"joust/board"
)

// summon begins a summon, which can be answered ahead of the unit being there. What is given up for it sets nothing off.
func (g *game) summon(o api.Option) {
	g.do(o)
	g.Summoned = true
	g.Try, g.Trying, g.Negated = o.Piece, true, false
	g.Then = api.ThenPlace
	g.Table.Events = nil
	g.happen(api.Event{Ev: api.EvTry, Piece: g.Try, Who: g.Table.Player})
	g.Recent, g.Table.Events = g.Table.Events, nil
	g.answers(other(g.Table.Player))
}

// place is what becomes of a unit that is being summoned.
func (g *game) place() {
	g.Trying = false
	if g.isIn(g.Try, api.Limbo) {
		g.leaveLimbo()
	}
	g.Try, g.Negated = none, false
	g.settle(api.ThenIdle)
}

func (g *game) leaveLimbo() {
	who := g.Table.Player
	if g.Negated || board.Free(g.Table, who, api.Row) < 0 {
		g.bury(g.Try)
		g.happen(api.Event{Ev: api.EvDestroy, Piece: g.Try, Who: who})
		return
	}
	g.put(g.Try, api.Row, who)
	g.happen(api.Event{Ev: api.EvSummon, Piece: g.Try, Who: who})
	g.Due = true
}
