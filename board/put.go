package board

import (
	"slices"

	"joust/api"
)

// putMay tells what is wrong with a piece's being put somewhere.
func putMay(t api.Table, id int, zone, who uint8) api.Errno {
	switch {
	case !May(t), zone >= api.Nowhere, who > 1:
		return api.ErrArg
	case !there(t, id), t.Pieces[id].Zone == api.Nowhere:
		return api.ErrNone
	case t.Pieces[id].Def == token && zone != api.Row: // it goes nowhere, where there is room always
		return api.OK
	case !fits(Kind(t, id), zone):
		return api.ErrArg
	case full(t.Pieces, id, zone, who):
		return api.ErrFull
	}
	return api.OK
}

func tokenMay(t api.Table, who uint8, attack int) api.Errno {
	switch {
	case !May(t), who > 1, !numberMay(attack):
		return api.ErrArg
	case len(t.Pieces) == api.MaxCards, free(t.Pieces, who, api.Row) == -1:
		return api.ErrFull
	}
	return api.OK
}

// full tells whether a zone has no place for one more piece.
func full(pieces []api.Piece, id int, zone, who uint8) bool {
	switch zone {
	case api.Row, api.Back:
		return free(pieces, who, zone) == -1
	case api.Limbo:
		return pieces[id].Zone != api.Limbo && slices.ContainsFunc(pieces, func(p api.Piece) bool { return p.Zone == api.Limbo })
	}
	return false
}

// free is the first free place of Row or Back, or -1.
func free(pieces []api.Piece, who, zone uint8) int {
	if zone != api.Row && zone != api.Back {
		return -1
	}
	var taken [api.Slots]bool
	for _, p := range pieces {
		if p.Has == who && p.Zone == zone {
			taken[p.At] = true
		}
	}
	return slices.Index(taken[:], false)
}

// goal is who has a piece that is put, and in which zone it is then.
func goal(p api.Piece, zone, who uint8) (uint8, uint8) {
	switch {
	case p.Def == token && zone != api.Row:
		return p.Owner, api.Nowhere
	case isPile(zone):
		return p.Owner, zone
	}
	return who, zone
}

// faceUp tells whether a piece that is put into a zone is Up there; some zones leave it to the one who puts it.
func faceUp(zone uint8, told bool) bool {
	switch zone {
	case api.Grave, api.Exile:
		return true
	case api.Deck, api.Hand, api.Nowhere:
		return false
	}
	return told
}

// place is where in its zone a piece comes to lie. Its own place is not free, and not counted.
func place(pieces []api.Piece, id int, who, zone uint8) int {
	switch zone {
	case api.Row, api.Back:
		return free(pieces, who, zone)
	case api.Limbo, api.Nowhere:
		return 0
	}
	count := 0
	for i, p := range pieces {
		if i != id && p.Has == who && p.Zone == zone {
			count++
		}
	}
	return count
}

// leave lets those come up that are behind a piece in its pile.
func leave(pieces []api.Piece, id int) {
	from := pieces[id]
	if !isPile(from.Zone) {
		return
	}
	for i := range pieces {
		p := &pieces[i]
		if p.Has == from.Has && p.Zone == from.Zone && p.At > from.At {
			p.At--
		}
	}
}
