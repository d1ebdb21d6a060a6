package duel

import (
	"math"

	"joust/api"
	"joust/board"
)

// turn begins the turn of the one whose it is.
func (g *game) turn() {
	t := &g.Table
	if t.Turn > api.MaxTurns {
		g.over(api.ByTurns, nobody)
		return
	}
	if t.Turn > 1 {
		g.draw(t.Player, 1)
	}
	g.happen(api.Event{Ev: api.EvStandby, Piece: none, Who: t.Player})
	g.Second, g.Summoned = false, false
	g.settle(api.ThenIdle)
}

func (g *game) idle() {
	g.Rounds = 0
	g.Stage = api.AtIdle
}

func (g *game) end() {
	g.happen(api.Event{Ev: api.EvEnd, Piece: none, Who: g.Table.Player})
	g.Due = true
	g.settle(api.ThenDrop)
}

func (g *game) drop() {
	if len(board.In(g.Table, g.Table.Player, api.Hand)) > api.HandSize {
		g.Stage = api.AtDrop
		return
	}
	for i := range g.Table.Pieces {
		p := &g.Table.Pieces[i]
		p.Boost, p.Used, p.Struck, p.Turned = 0, 0, false, false
	}
	if g.Table.Turn < math.MaxInt {
		g.Table.Turn++
	}
	g.Table.Player = other(g.Table.Player)
	g.turn()
}
