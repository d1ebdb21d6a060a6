package can

import (
	"joust/api"
	"joust/board"
)

// The speeds.
const (
	slow = 1 + iota
	swift
	swiftest
)

// ability is an effect of a piece: which piece, at which place among the piece's effects it stands, the piece, of which kind that is, the effect.
type ability struct {
	id, number int
	piece      api.Piece
	kind       uint8
	effect     api.Effect
}

// find is no of a table that may not be, of no piece, a token, no such effect.
func find(t api.Table, id, number int) (ability, bool) {
	if !board.May(t) || id < 0 || id >= len(t.Pieces) || number < 0 || number >= len(effects(t, id)) {
		return ability{}, false
	}
	return abilityOf(t, id, number), true
}

// abilityOf is that of an effect that is there, in a table that may be.
func abilityOf(t api.Table, id, number int) ability {
	return ability{id: id, number: number, piece: t.Pieces[id], kind: board.Kind(t, id), effect: effects(t, id)[number]}
}

// effects are those of a piece that is there, in a table that may be; a token has none.
func effects(t api.Table, id int) []api.Effect {
	def := t.Pieces[id].Def
	if def < 0 {
		return nil
	}
	return t.Kinds[def].Effects
}

func (x ability) speed() uint8 {
	switch x.effect.Mode {
	case api.Play:
		return speedOf(x.kind)
	case api.Swift:
		return swift
	}
	return slow
}

// speedOf is that of a play of a card of a kind.
func speedOf(kind uint8) uint8 {
	switch kind {
	case api.Unit, api.Spell:
		return slow
	case api.Quick, api.Trap:
		return swift
	}
	return swiftest
}

func (x ability) isUpon(ev uint8) bool { return x.effect.Mode == api.Play && x.effect.Ev == ev }

func (x ability) isTrigger() bool {
	return x.effect.Mode == api.When || x.effect.Mode == api.If || x.effect.Mode == api.Must
}

// canCome tells whether a trigger's piece is where the trigger works.
func (x ability) canCome() bool {
	return isOpen(x.piece) || x.piece.Zone == api.Grave && x.effect.Ev == api.EvDestroy && x.effect.Side == api.Self
}

// isOpen tells whether a piece is in Row, Up.
func isOpen(p api.Piece) bool { return p.Zone == api.Row && p.Up }

// isLaid tells whether a piece is in Back, face down.
func isLaid(p api.Piece) bool { return p.Zone == api.Back && !p.Up }
