package act

import (
	"joust/api"
	"joust/board"
)

// steps tells how each step is done; a negate does nothing by itself.
func steps() map[uint8]func(*work) {
	return map[uint8]func(*work){
		api.StDraw:    (*work).draw,
		api.StMill:    (*work).mill,
		api.StDamage:  (*work).damage,
		api.StHeal:    (*work).heal,
		api.StDestroy: (*work).destroy,
		api.StBanish:  (*work).banish,
		api.StBounce:  (*work).bounce,
		api.StBoost:   (*work).boost,
		api.StRevive:  (*work).revive,
		api.StToken:   (*work).token,
	}
}

func (w *work) draw() {
	for _, who := range w.players {
		for range w.number {
			if !w.first(who, api.Hand) {
				w.lose(who)
				break
			}
		}
	}
}

func (w *work) mill() {
	for _, who := range w.players {
		for range w.number {
			if !w.first(who, api.Grave) {
				break
			}
		}
	}
}

func (w *work) damage() {
	if w.number == 0 {
		return
	}
	for _, who := range w.players {
		w.now.Life[who] = max(w.now.Life[who]-w.number, 0)
		w.did = true
		w.happen(api.EvDamage, none, who)
	}
}

func (w *work) heal() {
	if w.number == 0 {
		return
	}
	for _, who := range w.players {
		w.now.Life[who] = min(w.now.Life[who]+w.number, api.MaxLife)
		w.did = true
	}
}

func (w *work) destroy() {
	for _, id := range w.in(api.Row, api.Back) {
		had := w.now.Pieces[id].Has
		if w.put(id, api.Grave, had) {
			w.happen(api.EvDestroy, id, had)
		}
	}
}

func (w *work) banish() { w.remove(api.Exile) }

func (w *work) bounce() { w.remove(api.Hand) }

// remove puts what the step is about into a zone in which all pieces are with their owners.
func (w *work) remove(zone uint8) {
	for _, id := range w.in(api.Row, api.Back, api.Grave) {
		w.put(id, zone, w.who)
	}
}

func (w *work) boost() {
	if w.number == 0 {
		return
	}
	for _, id := range w.in(api.Row) {
		p := &w.now.Pieces[id]
		if p.Up {
			p.Boost = more(p.Boost, w.number)
			w.did = true
		}
	}
}

// more is a boost that is more by n, put into its bounds. A table may tell any boost: it is put to where n can't bring it back into them, so that no sum leaves what an int holds.
func more(boost, n int) int {
	const bound = api.MaxNumber
	boost = clamp(boost, 3*bound)
	return clamp(boost+n, bound)
}

func clamp(n, bound int) int { return max(-bound, min(n, bound)) }

// revive leaves to the board which pieces are no units, and when there is no room any more.
func (w *work) revive() {
	for _, id := range w.in(api.Grave) {
		if w.put(id, api.Row, w.who) {
			w.happen(api.EvSummon, id, w.who)
		}
	}
}

func (w *work) token() {
	for _, who := range w.players {
		t, id, e := board.Token(w.now, who, min(w.number, api.MaxNumber))
		if e != api.OK {
			continue
		}
		w.now, w.did = t, true
		w.happen(api.EvSummon, id, who)
	}
}
