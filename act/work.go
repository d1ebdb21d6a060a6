package act

import (
	"slices"

	"joust/api"
	"joust/board"
	"joust/cards"
)

// none is the piece of what happened to a player.
const none = -1

// work is a step that is under way: whose, which players it is of, its number, which pieces it is about; how the table was; how it is by now; what happened; was anything done?
type work struct {
	who      uint8
	players  []uint8
	number   int
	about    []int
	was      api.Table
	now      api.Table
	happened []api.Event
	did      bool
}

// begin leaves out of the table that pieces are moved on what each move would copy anew, and none asks about.
func begin(t api.Table) *work {
	was := board.Copy(t)
	now := board.Copy(api.Table{Kinds: cards.Bare(t.Kinds), Pieces: t.Pieces, Life: t.Life, Turn: t.Turn, Player: t.Player, Moment: t.Moment, Lost: t.Lost})
	return &work{was: was, now: now}
}

// end is the table behind the step, and whether that did something: what happened did at one moment.
func (w *work) end() (api.Table, bool) {
	t := w.now
	t.Kinds, t.Events = w.was.Kinds, w.was.Events
	if w.did {
		t.Moment++
	}
	for _, x := range w.happened {
		x.Moment = t.Moment
		t.Events = append(t.Events, x)
	}
	return t, w.did
}

func (w *work) happen(ev uint8, piece int, who uint8) {
	w.happened = append(w.happened, api.Event{Ev: ev, Piece: piece, Who: who})
}

// in are those that the step is about that lay in one of some zones ahead of it.
func (w *work) in(zones ...uint8) []int {
	var ids []int
	for _, id := range w.about {
		if slices.Contains(zones, w.was.Pieces[id].Zone) {
			ids = append(ids, id)
		}
	}
	return ids
}

// put tells whether the piece may be put there: then it is.
func (w *work) put(id int, zone, who uint8) bool {
	t, e := board.Put(w.now, id, zone, who, true, false)
	w.now = t
	w.did = w.did || e == api.OK
	return e == api.OK
}

// first puts the first piece of a player's deck elsewhere, if there is one.
func (w *work) first(who, zone uint8) bool {
	deck := board.In(w.now, who, api.Deck)
	return len(deck) > 0 && w.put(deck[0], zone, who)
}

// lose is something done only of one who hasn't lost yet.
func (w *work) lose(who uint8) {
	w.did = w.did || !w.now.Lost[who]
	w.now.Lost[who] = true
}
