package board

import (
	"slices"

	"joust/api"
)

func May(t api.Table) bool {
	if t.Turn < 1 || t.Player > 1 || len(t.Pieces) > api.MaxCards {
		return false
	}
	for _, life := range t.Life {
		if life < 0 || life > api.MaxLife {
			return false
		}
	}
	for _, p := range t.Pieces {
		if !pieceMay(p, len(t.Kinds)) || !zoneMay(p, kindOf(t.Kinds, p.Def)) {
			return false
		}
	}
	return placesMay(t.Pieces)
}

// pieceMay tells whether a piece is one, of so many kinds, of players, in a zone.
func pieceMay(p api.Piece, kinds int) bool {
	return p.Def >= token && p.Def < kinds && numberMay(p.Attack) && numberMay(p.Guard) && p.Owner <= 1 && p.Has <= 1 && p.Zone <= api.Nowhere
}

func numberMay(n int) bool { return n >= 0 && n <= api.MaxNumber }

// zoneMay tells whether a piece of that kind may be in its zone, with the one who has it.
func zoneMay(p api.Piece, kind uint8) bool {
	if p.Def == token {
		return p.Zone == api.Row || p.Zone == api.Nowhere && p.Has == p.Owner
	}
	return p.Zone != api.Nowhere && fits(kind, p.Zone) && (p.Has == p.Owner || !isPile(p.Zone))
}

// kindOf is Unit of what is of no kind.
func kindOf(kinds []api.Card, def int) uint8 {
	if def < 0 || def >= len(kinds) {
		return api.Unit
	}
	return kinds[def].Kind
}

// fits tells whether the zone is one for pieces of that kind.
func fits(kind, zone uint8) bool {
	switch zone {
	case api.Row, api.Limbo:
		return kind == api.Unit
	case api.Back:
		return kind != api.Unit
	}
	return true
}

// isPile tells whether in that zone places follow one another, and all pieces are with their owners.
func isPile(zone uint8) bool {
	switch zone {
	case api.Deck, api.Hand, api.Grave, api.Exile:
		return true
	}
	return false
}

// places are those of one player in one zone: which ones are taken, and how many.
type places struct {
	taken [api.MaxCards]bool
	count int
}

// take is no of a place that there is not, or that was taken.
func (l *places) take(at, room int) bool {
	if at < 0 || at >= room || l.taken[at] {
		return false
	}
	l.taken[at] = true
	l.count++
	return true
}

// placesMay tells whether the pieces, of players, in zones, are at places of their own.
func placesMay(pieces []api.Piece) bool {
	var taken [2][api.Nowhere]places
	for _, p := range pieces {
		if p.Zone == api.Nowhere {
			if p.At != 0 {
				return false
			}
			continue
		}
		if p.Zone == api.Limbo { // one for both
			p.Has = 0
		}
		if !taken[p.Has][p.Zone].take(p.At, room(p.Zone)) {
			return false
		}
	}
	return unbroken(&taken[0]) && unbroken(&taken[1])
}

// room is how many places there are in a zone.
func room(zone uint8) int {
	switch zone {
	case api.Row, api.Back:
		return api.Slots
	case api.Limbo:
		return 1
	}
	return api.MaxCards
}

// unbroken tells whether in no pile a place is left out ahead of one that is taken.
func unbroken(zones *[api.Nowhere]places) bool {
	for zone := range zones {
		l := &zones[zone]
		if isPile(uint8(zone)) && slices.Contains(l.taken[:l.count], false) {
			return false
		}
	}
	return true
}

// deckMay tells whether a table may be begun with a deck of places of kinds.
func deckMay(deck []int, kinds []api.Card) bool {
	if len(deck) > api.MaxDeck {
		return false
	}
	for _, def := range deck {
		if def < 0 || def >= len(kinds) || !numberMay(kinds[def].Attack) || !numberMay(kinds[def].Guard) {
			return false
		}
	}
	return true
}
