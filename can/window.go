package can

import (
	"slices"

	"joust/api"
	"joust/board"
	"joust/match"
)

// window is one that is open for a player, in a table that may be.
type window struct {
	api.Window
	table api.Table
	who   uint8
	room  bool // is a place in the player's Back free?
}

// opened tells which effects may be activated: the window is made once for all that are held against it. What an effect costs is asked last, as that may take long to tell.
func opened(t api.Table, who uint8, given api.Window) func(ability) bool {
	w := &window{Window: given, table: t, who: who, room: board.Free(t, who, api.Back) >= 0}
	asks := [...]func(ability) bool{w.place, w.time, w.upon, w.cost}
	return func(x ability) bool {
		for _, may := range asks {
			if !may(x) {
				return false
			}
		}
		return true
	}
}

// place tells whether the player has the piece, where such an effect works.
func (w *window) place(x ability) bool {
	if x.piece.Has != w.who {
		return false
	}
	switch x.effect.Mode {
	case api.Play:
		from := w.places(x.kind)
		return from(x.piece)
	case api.Act, api.Swift:
		return isOpen(x.piece)
	}
	return false
}

// places tells from where a card of a kind is played; a unit never is, as none is in Back.
func (w *window) places(kind uint8) func(api.Piece) bool {
	switch kind {
	case api.Spell:
		return w.forSpells
	case api.Quick:
		return w.forQuicks
	}
	return w.isReady
}

func (w *window) forSpells(p api.Piece) bool { return w.inHand(p) || isLaid(p) }

func (w *window) forQuicks(p api.Piece) bool {
	return w.inHand(p) && w.hasTurn() || w.isReady(p)
}

// isReady tells whether a piece was laid in an earlier turn.
func (w *window) isReady(p api.Piece) bool { return isLaid(p) && p.Since < w.table.Turn }

// inHand asks for a free place, too, as what is played from there goes to Back.
func (w *window) inHand(p api.Piece) bool { return p.Zone == api.Hand && w.room }

func (w *window) hasTurn() bool { return w.who == w.table.Player }

func (w *window) time(x ability) bool {
	speed, links := x.speed(), w.Links
	switch {
	case speed == slow:
		return w.Main && len(links) == 0 && w.hasTurn()
	case len(links) > 0:
		return speed >= links[len(links)-1].Speed
	}
	return !w.Trying || x.isUpon(api.EvTry)
}

// upon tells whether what a play is upon is so; acts and swifts are upon nothing.
func (w *window) upon(x ability) bool {
	e := x.effect
	switch {
	case e.Mode != api.Play || e.Ev == api.EvNone:
		return true
	case e.Ev == api.EvLink:
		return match.Link(w.who, e.Side, w.Links)
	}
	return slices.ContainsFunc(w.Recent, func(happened api.Event) bool {
		return match.Fits(w.who, x.id, e.Ev, e.Side, happened)
	})
}

func (w *window) cost(x ability) bool { return afford(w.table, w.who, x) }
