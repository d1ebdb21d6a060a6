package match

import "joust/api"

// none is the piece of what happened to no piece.
const none = -1

// asks tells whether something that is of somebody, and of a piece, is what a side asks for.
type asks func(whose uint8, piece int) bool

// sides are, by their numbers, what they ask, as told for a piece that a player has.
func sides(who uint8, id int) [api.Self + 1]asks {
	return [...]asks{
		api.Mine:   func(whose uint8, _ int) bool { return whose == who },
		api.Theirs: func(whose uint8, _ int) bool { return whose == other(who) },
		api.Any:    func(uint8, int) bool { return true },
		api.Self:   func(_ uint8, piece int) bool { return piece == id },
	}
}

// asking is what one side asks; of no player, and of a side that is none, nothing is it.
func asking(who uint8, id int, side uint8) asks {
	l := sides(who, id)
	if who > 1 || int(side) >= len(l) {
		return func(uint8, int) bool { return false }
	}
	return l[side]
}

// fitting tells which events fit: it is made once for all events that one effect is held against.
func fitting(who uint8, id int, ev, side uint8) func(api.Event) bool {
	is := asking(who, id, side)
	return func(x api.Event) bool {
		return ev != api.EvNone && x.Ev == ev && is(x.Who, x.Piece)
	}
}

func other(who uint8) uint8 { return 1 - who }
