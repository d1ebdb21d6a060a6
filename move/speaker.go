package move

import (
	"strconv"

	"joust/api"
	"joust/board"
)

// untold stands where there is no text: all that are told have words.
const untold = ""

// zones are the words for those in which pieces have a place.
var zones = [...]string{
	api.Deck:  "deck",
	api.Hand:  "hand",
	api.Row:   "row",
	api.Back:  "back",
	api.Grave: "grave",
	api.Exile: "exile",
	api.Limbo: "limbo",
}

// speaker is a player who tells pieces of a table.
type speaker struct {
	who    uint8
	pieces []api.Piece
}

// speakerAt has no pieces to tell, if the table may not be, or there is no such player.
func speakerAt(t api.Table, who uint8) speaker {
	if who > 1 || !board.May(t) {
		return speaker{who: who}
	}
	return speaker{who, t.Pieces}
}

// where is untold of a piece that is not there, or nowhere.
func (s speaker) where(id int) string {
	if id < 0 || id >= len(s.pieces) || s.pieces[id].Zone == api.Nowhere {
		return untold
	}
	p := s.pieces[id]
	side := "their"
	if p.Has == s.who {
		side = "my"
	}
	return side + " " + zones[p.Zone] + " " + strconv.Itoa(p.At)
}
