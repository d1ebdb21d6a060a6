package chain

import (
	"slices"

	"joust/act"
	"joust/api"
)

// none is the place of no link.
const none = -1

// undoing is a chain that comes to its end: how the table is by now, which link was negated last, whether the summon was.
type undoing struct {
	table   api.Table
	dead    int
	negated bool
}

func (u *undoing) all(l []api.Link) {
	undo := func() {
		defer u.clear(l) // cards stay where they were played, till the last step is done
		for place, link := range slices.Backward(l) {
			u.link(place, link)
		}
	}
	undo()
}

func (u *undoing) link(place int, link api.Link) {
	e, ok := u.effect(link)
	if !ok || link.Dead || place == u.dead {
		return
	}
	for _, s := range e.Steps {
		if s.Do == api.StNegate {
			u.negate(place, e.Ev)
		} else {
			u.table, _ = act.Do(u.table, link.Who, link.Piece, e, s, link.Picks)
		}
	}
}

// effect is the one of a link; a link of no player has none.
func (u *undoing) effect(link api.Link) (api.Effect, bool) {
	if link.Who > 1 {
		return api.Effect{}, false
	}
	return find(u.table, link.Piece, link.Effect)
}

// negate needs to note one link alone, as the next one that is gone to is the one right ahead. Ahead of the first one is none.
func (u *undoing) negate(place int, ev uint8) {
	switch ev {
	case api.EvTry:
		u.negated = true
	case api.EvLink:
		u.dead = place - 1
	}
	u.table.Moment++
}

// clear puts the cards that were played away.
func (u *undoing) clear(l []api.Link) {
	for _, link := range l {
		e, ok := u.effect(link)
		if ok && e.Mode == api.Play && isShown(u.table.Pieces[link.Piece]) {
			u.table = bury(u.table, link.Piece)
		}
	}
}

// isShown tells whether a piece is in Back, Up.
func isShown(p api.Piece) bool { return p.Zone == api.Back && p.Up }
