package chain

import (
	"slices"

	"joust/aim"
	"joust/api"
	"joust/board"
	"joust/can"
	"joust/cards"
)

// beginMay tells what is wrong with an effect's beginning.
func beginMay(t api.Table, who uint8, id, effect int, picks []int) api.Errno {
	e, ok := find(t, id, effect)
	switch {
	case !board.May(t), who > 1, !ok, e.Mode >= api.Aura:
		return api.ErrArg
	case !can.Afford(t, who, id, effect), t.Pieces[id].Has != who, !aim.May(t, who, id, e, picks):
		return api.ErrRule
	case comesOut(t, id) && board.Free(t, who, api.Back) < 0:
		return api.ErrFull
	}
	return api.OK
}

// begun is the table behind the beginning of an effect that may be begun. Pieces are moved on one without what each move would copy anew, and none asks about.
func begun(t api.Table, who uint8, id, effect int) api.Table {
	e, _ := find(t, id, effect)
	bare := t
	bare.Kinds, bare.Events = cards.Bare(t.Kinds), nil
	moved := show(board.Copy(bare), who, id, effect)
	moved = drop(moved, who, id, e.Discard)
	if e.Tribute {
		moved = bury(moved, id)
	}
	t = board.Copy(t)
	t.Pieces = moved.Pieces
	t.Life[who] -= max(e.Pay, 0)
	return t
}

// show lays a piece open, and notes of a unit that its effect was used, in a table of one's own.
func show(t api.Table, who uint8, id, effect int) api.Table {
	p := &t.Pieces[id]
	switch {
	case isUnit(t, id):
		p.Used |= 1 << effect
	case comesOut(t, id):
		t, _ = board.Put(t, id, api.Back, who, true, false)
	case p.Zone == api.Back:
		p.Up = true
	}
	return t
}

// comesOut tells whether a piece goes from the hand to Back, when an effect of it is begun.
func comesOut(t api.Table, id int) bool { return !isUnit(t, id) && t.Pieces[id].Zone == api.Hand }

func isUnit(t api.Table, id int) bool { return board.Kind(t, id) == api.Unit }

// drop puts the last n cards of a hand into the grave, but not that one.
func drop(t api.Table, who uint8, id, n int) api.Table {
	for _, card := range slices.Backward(board.In(t, who, api.Hand)) {
		if n <= 0 {
			break
		}
		if card != id {
			t = bury(t, card)
			n--
		}
	}
	return t
}

// bury puts a card into its owner's grave.
func bury(t api.Table, id int) api.Table {
	t, _ = board.Put(t, id, api.Grave, t.Pieces[id].Owner, true, false)
	return t
}
