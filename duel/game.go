package duel

import (
	"joust/act"
	"joust/api"
	"joust/board"
	"joust/cards"
)

// game is a duel that goes on from a decision, till the next one is asked for.
type game struct{ api.Duel }

// must is for what a layer beneath never refuses of a duel that Begin and Decide made.
func must(e api.Errno) {
	if e != api.OK {
		panic(api.ErrState)
	}
}

// happen lets a moment pass at which all of this happened; of nothing none passes.
func (g *game) happen(l ...api.Event) {
	if len(l) == 0 {
		return
	}
	g.Table.Moment++
	for _, x := range l {
		x.Moment = g.Table.Moment
		g.Table.Events = append(g.Table.Events, x)
	}
}

// put moves a piece, Up where its zone leaves that open, on a table without what each move would copy anew, and none asks about.
func (g *game) put(id int, zone, who uint8) {
	bare := g.Table
	bare.Kinds, bare.Events = cards.Bare(bare.Kinds), nil
	moved, e := board.Put(bare, id, zone, who, true, false)
	must(e)
	g.Table.Pieces = moved.Pieces
}

// bury puts a piece into its owner's grave.
func (g *game) bury(id int) { g.put(id, api.Grave, g.Table.Pieces[id].Owner) }

func (g *game) draw(who uint8, n int) { g.Table, _ = act.Draw(g.Table, who, n) }

// isIn tells whether there is such a piece, in that zone.
func (g *game) isIn(id int, zone uint8) bool {
	return id >= 0 && id < len(g.Table.Pieces) && g.Table.Pieces[id].Zone == zone
}

func other(who uint8) uint8 { return 1 - who }
