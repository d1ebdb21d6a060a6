package idle

import (
	"joust/api"
	"joust/board"
	"joust/can"
)

// none stands where an option is about no piece, or has no number.
const none = -1

// great is the level from which on a piece is given up for a unit.
const great = 5

// add appends an option of each of these doings, with a piece and a number.
func add(l []api.Option, id, arg int, doings ...uint8) []api.Option {
	for _, do := range doings {
		l = append(l, api.Option{Do: do, Piece: id, Arg: arg})
	}
	return l
}

// summons appends what may be done with the units of the hand.
func summons(l []api.Option, t api.Table) []api.Option {
	room := board.Free(t, t.Player, api.Row) >= 0
	row := board.In(t, t.Player, api.Row)
	for _, id := range board.In(t, t.Player, api.Hand) {
		switch {
		case !isUnit(t, id):
		case isGreat(t, id):
			for _, given := range row {
				l = add(l, id, given, api.OpSummon, api.OpSet)
			}
		case room:
			l = add(l, id, none, api.OpSummon, api.OpSet)
		}
	}
	return l
}

// lays appends what may be done with the other cards of the hand, beside playing them.
func lays(l []api.Option, t api.Table) []api.Option {
	if board.Free(t, t.Player, api.Back) < 0 {
		return l
	}
	for _, id := range board.In(t, t.Player, api.Hand) {
		if !isUnit(t, id) {
			l = add(l, id, none, api.OpLay)
		}
	}
	return l
}

func plays(l []api.Option, t api.Table) []api.Option {
	for _, r := range can.All(t, t.Player, api.Window{Main: true}) {
		l = add(l, r.Piece, r.Effect, api.OpPlay)
	}
	return l
}

func turns(l []api.Option, t api.Table) []api.Option {
	for _, id := range board.In(t, t.Player, api.Row) {
		if p := t.Pieces[id]; p.Since < t.Turn && !p.Turned && !p.Struck {
			l = add(l, id, none, api.OpTurn)
		}
	}
	return l
}

// battle appends the battle, which the first turn of all has none of.
func battle(l []api.Option, t api.Table) []api.Option {
	if t.Turn <= 1 {
		return l
	}
	return add(l, none, none, api.OpBattle)
}

func isUnit(t api.Table, id int) bool { return board.Kind(t, id) == api.Unit }

// isGreat asks about a card of a hand, where no token is: it is of a kind.
func isGreat(t api.Table, id int) bool { return t.Kinds[t.Pieces[id].Def].Level >= great }
