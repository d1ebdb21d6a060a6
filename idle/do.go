package idle

import (
	"slices"

	"joust/api"
	"joust/board"
)

// doMay tells whether an option is one that is done here; a table that may not be has none. What may be played is not gone through for it, as that may take long.
func doMay(t api.Table, o api.Option) bool {
	switch o.Do {
	case api.OpSummon, api.OpSet:
		return slices.Contains(summons(nil, t), o)
	case api.OpLay:
		return slices.Contains(lays(nil, t), o)
	case api.OpTurn:
		return slices.Contains(turns(nil, t), o)
	}
	return false
}

// done is the table behind an option that is done here, and may be.
func done(t api.Table, o api.Option) api.Table {
	switch o.Do {
	case api.OpSummon:
		return put(giveUp(t, o.Arg), o.Piece, api.Limbo, true, false)
	case api.OpSet:
		return put(giveUp(t, o.Arg), o.Piece, api.Row, false, true)
	case api.OpLay:
		return put(t, o.Piece, api.Back, false, false)
	}
	return turned(t, o.Piece)
}

// giveUp is the table without a piece that is given up, if there is one.
func giveUp(t api.Table, id int) api.Table {
	if id == none {
		return t
	}
	return put(t, id, api.Grave, true, false)
}

// put leaves a piece where it is that has no room: a Limbo in which another one is.
func put(t api.Table, id int, zone uint8, up, low bool) api.Table {
	t, _ = board.Put(t, id, zone, t.Player, up, low)
	return t
}

// turned lays open what is face down, and turns other pieces from attack to guard, or back.
func turned(t api.Table, id int) api.Table {
	t = board.Copy(t)
	p := &t.Pieces[id]
	p.Low = p.Up && !p.Low
	p.Up, p.Turned = true, true
	return t
}
