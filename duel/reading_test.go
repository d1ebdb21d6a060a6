package duel_test

import (
	"slices"

	"joust/act"
	"joust/aim"
	"joust/api"
	"joust/board"
	"joust/can"
	"joust/chain"
	"joust/duel"
	"joust/fight"
	"joust/idle"
	"joust/trig"
)

// What a reading does next, by itself.
const (
	settling = iota
	ordering
	opening
	keeping
	choosing
	undoing
	turning
	asking
)

// reading is a second reading of the chapter: one loop over what is next, till somebody is asked.
type reading struct{ api.Duel }

// read is what an option leads to.
func read(d api.Duel, o api.Option) api.Duel {
	r := &reading{duel.Copy(d)}
	for at := r.decided(o); at != asking; {
		at = r.next(at)
	}
	return r.Duel
}

// options are those of a duel.
func options(d api.Duel) (who uint8, l []api.Option) {
	x := d.Table
	switch d.Stage {
	case api.AtLot:
		for i := 0; i < d.Lots; i++ {
			l = append(l, option(api.OpLot, -1, i))
		}
		return d.Whose, l
	case api.AtIdle:
		return x.Player, idle.Options(x, d.Summoned, d.Second)
	case api.AtBattle:
		return x.Player, fight.Attacks(x, x.Player)
	case api.AtDrop:
		for _, id := range board.In(x, x.Player, api.Hand) {
			l = append(l, option(api.OpDrop, id, -1))
		}
		return x.Player, l
	case api.AtAnswer:
		l = append(l, pass)
		for _, r := range can.All(x, d.Asked, api.Window{Trying: d.Trying, Recent: d.Recent, Links: d.Links}) {
			l = append(l, answer(r.Piece, r.Effect))
		}
		return d.Asked, l
	case api.AtPick:
		c := d.Choice
		for _, id := range aim.Cards(x, c.Ready.Who, c.Ready.Piece, x.Kinds[x.Pieces[c.Ready.Piece].Def].Effects[c.Ready.Effect]) {
			if !slices.Contains(c.Picks, id) {
				l = append(l, pick(id))
			}
		}
		return c.Ready.Who, l
	case api.AtOrder:
		for _, r := range d.Waits {
			if first := waiting(d); r.Must == first.Must && r.Who == first.Who {
				l = append(l, answer(r.Piece, r.Effect))
			}
		}
		if !waiting(d).Must {
			l = append(l, pass)
		}
		return waiting(d).Who, l
	}
	return 0, nil
}

// waiting is one of the triggers that are to be put in order first.
func waiting(d api.Duel) api.Ready {
	best, value := api.Ready{}, 9
	for _, r := range d.Waits {
		v := 0
		if !r.Must {
			v += 2
		}
		if r.Who != d.Table.Player {
			v++
		}
		if v < value {
			best, value = r, v
		}
	}
	return best
}

// decided does an option, and tells what is next.
func (r *reading) decided(o api.Option) int {
	player := r.Table.Player
	switch o.Do {
	case api.OpLot:
		r.move(board.In(r.Table, r.Whose, api.Deck)[o.Arg], api.Deck, r.Whose)
		if r.Lots--; r.Lots > 0 {
			return asking
		}
		if r.Whose == 1 {
			r.Table, _ = act.Draw(r.Table, 0, 5)
			r.Table, _ = act.Draw(r.Table, 1, 5)
			return turning
		}
		r.Whose = 1
		for _, p := range r.Table.Pieces {
			if p.Owner == 1 {
				r.Lots++
			}
		}
		return asking
	case api.OpSummon:
		r.Table, _ = idle.Do(r.Table, o)
		r.Table.Events = nil
		r.note(api.EvTry, o.Piece, player)
		r.Recent, r.Table.Events = r.Table.Events, nil
		r.Summoned, r.Try, r.Trying, r.Negated, r.Then = true, o.Piece, true, false, api.ThenPlace
		return r.ask(1 - player)
	case api.OpSet, api.OpLay, api.OpTurn:
		r.Table, _ = idle.Do(r.Table, o)
		r.Summoned = r.Summoned || o.Do == api.OpSet
		r.Then = api.ThenIdle
	case api.OpPlay:
		r.Then = api.ThenIdle
		return r.chosen(api.Ready{Who: player, Piece: o.Piece, Effect: o.Arg}, false)
	case api.OpBattle:
		r.Then = api.ThenBattle
	case api.OpAttack:
		r.Table.Pieces[o.Piece].Struck = true
		r.Attacker, r.Target = o.Piece, o.Arg
		r.note(api.EvAttack, o.Piece, player)
		r.Due, r.Then = true, api.ThenStrike
	case api.OpEnd:
		if r.Stage == api.AtBattle {
			r.Second, r.Then = true, api.ThenIdle
			break
		}
		r.note(api.EvEnd, -1, player)
		r.Due, r.Then = true, api.ThenDrop
	case api.OpDrop:
		r.move(o.Piece, api.Grave, player)
		r.Then = api.ThenDrop
	case api.OpPick:
		r.Choice.Picks = append(r.Choice.Picks, o.Piece)
		return choosing
	case api.OpCard, api.OpPass:
		return r.answered(o)
	}
	return settling
}

// answered is an effect of an order or an answer, or a pass.
func (r *reading) answered(o api.Option) int {
	switch {
	case r.Stage == api.AtOrder && o.Do == api.OpPass:
		group := waiting(r.Duel)
		r.Waits = slices.DeleteFunc(r.Waits, func(x api.Ready) bool { return x.Who == group.Who && !x.Must })
		return ordering
	case r.Stage == api.AtOrder:
		group := waiting(r.Duel)
		group.Piece, group.Effect = o.Piece, o.Arg
		r.Waits = slices.DeleteFunc(r.Waits, func(x api.Ready) bool { return x == group })
		return r.chosen(group, true)
	case o.Do == api.OpCard:
		return r.chosen(api.Ready{Who: r.Asked, Piece: o.Piece, Effect: o.Arg}, false)
	}
	r.Passes++
	switch {
	case r.Passes == 1:
		r.Asked = 1 - r.Asked
		return asking
	case len(r.Links) == 0 && r.Trying:
		return keeping
	case len(r.Links) == 0:
		return settling
	}
	return undoing
}

func (r *reading) chosen(x api.Ready, ordered bool) int {
	r.Choice, r.Ordered = api.Choice{Ready: x}, ordered
	return choosing
}

// ask asks for answers.
func (r *reading) ask(who uint8) int {
	r.Stage, r.Asked, r.Passes = api.AtAnswer, who, 0
	return asking
}

// stays is a stage at which somebody is asked.
func (r *reading) stays(stage uint8) int {
	r.Stage = stage
	return asking
}

func (r *reading) ends(reason, winner uint8) int {
	r.Reason, r.Winner = reason, winner
	return r.stays(api.AtOver)
}

func (r *reading) move(id int, zone, who uint8) {
	x, e := board.Put(r.Table, id, zone, who, true, false)
	if e != api.OK {
		panic(e)
	}
	r.Table = x
}

func (r *reading) note(ev uint8, id int, who uint8) {
	r.Table.Moment++
	r.Table.Events = append(r.Table.Events, api.Event{Ev: ev, Moment: r.Table.Moment, Piece: id, Who: who})
}

// next does what is next, and tells what comes then.
func (r *reading) next(at int) int {
	switch at {
	case settling:
		return r.settle()
	case ordering:
		var left []api.Ready
		for _, x := range r.Waits {
			if can.Trigger(r.Table, x.Who, x.Piece, x.Effect) {
				left = append(left, x)
			}
		}
		r.Waits = left
		if len(left) > 0 {
			return r.stays(api.AtOrder)
		}
		if n := len(r.Links); n > 0 {
			return r.ask(1 - r.Links[n-1].Who)
		}
		return opening
	case opening:
		if r.Due {
			r.Due = false
			return r.ask(r.Table.Player)
		}
		return keeping
	case keeping:
		return r.keep()
	case choosing:
		return r.choose()
	case undoing:
		negated := false
		r.Table, negated = chain.End(r.Table, r.Links)
		r.Links = nil
		r.Negated = r.Negated || negated && r.Trying
		return settling
	}
	return r.turn()
}

func (r *reading) settle() int {
	out := func(who uint8) bool { return r.Table.Lost[who] || r.Table.Life[who] == 0 }
	if out(0) || out(1) {
		reason, winner := uint8(api.ByDeck), uint8(2)
		if r.Table.Life[0] == 0 || r.Table.Life[1] == 0 {
			reason = api.ByLife
		}
		if !out(0) {
			winner = 0
		} else if !out(1) {
			winner = 1
		}
		return r.ends(reason, winner)
	}
	r.Recent, r.Table.Events = r.Table.Events, nil
	r.Waits = trig.Collect(r.Table, r.Recent)
	if len(r.Waits) == 0 {
		return opening
	}
	if r.Rounds == 32 {
		return r.ends(api.ByRounds, 2)
	}
	r.Rounds++
	return ordering
}

func (r *reading) choose() int {
	c := r.Choice
	if len(c.Picks) < r.Table.Kinds[r.Table.Pieces[c.Ready.Piece].Def].Effects[c.Ready.Effect].Pick {
		return r.stays(api.AtPick)
	}
	r.Choice = api.Choice{}
	x, link, e := chain.Begin(r.Table, c.Ready.Who, c.Ready.Piece, c.Ready.Effect, c.Picks)
	if e != api.OK {
		panic(e)
	}
	r.Table, r.Links = x, append(r.Links, link)
	switch {
	case len(r.Links) == 16:
		r.Waits = nil
		return undoing
	case r.Ordered:
		return ordering
	}
	return r.ask(1 - c.Ready.Who)
}

func (r *reading) turn() int {
	if r.Table.Turn > 100 {
		return r.ends(api.ByTurns, 2)
	}
	if r.Table.Turn > 1 {
		r.Table, _ = act.Draw(r.Table, r.Table.Player, 1)
	}
	r.note(api.EvStandby, -1, r.Table.Player)
	r.Second, r.Summoned, r.Then = false, false, api.ThenIdle
	return settling
}

// keep does what is kept.
func (r *reading) keep() int {
	player := r.Table.Player
	switch r.Then {
	case api.ThenIdle:
		r.Rounds = 0
		return r.stays(api.AtIdle)
	case api.ThenBattle:
		r.Rounds = 0
		return r.stays(api.AtBattle)
	case api.ThenPlace:
		id := r.Try
		if r.Negated || len(board.In(r.Table, player, api.Row)) == 5 {
			r.move(id, api.Grave, player)
			r.note(api.EvDestroy, id, player)
		} else {
			r.move(id, api.Row, player)
			r.note(api.EvSummon, id, player)
			r.Due = true
		}
		r.Trying, r.Try, r.Negated, r.Then = false, -1, false, api.ThenIdle
	case api.ThenStrike:
		return r.strike()
	case api.ThenDeaths:
		moment := r.Table.Moment + 1
		for _, id := range r.Dies {
			if p := r.Table.Pieces[id]; p.Zone == api.Row {
				r.move(id, api.Grave, player)
				r.Table.Moment = moment - 1
				r.note(api.EvDestroy, id, p.Has)
			}
		}
		r.Dies, r.Attacker, r.Target, r.Then = nil, -1, -1, api.ThenBattle
	case api.ThenDrop:
		if len(board.In(r.Table, player, api.Hand)) > 6 {
			return r.stays(api.AtDrop)
		}
		for i, p := range r.Table.Pieces {
			p.Boost, p.Used, p.Struck, p.Turned = 0, 0, false, false
			r.Table.Pieces[i] = p
		}
		r.Table.Turn, r.Table.Player = r.Table.Turn+1, 1-player
		return turning
	}
	return settling
}

func (r *reading) strike() int {
	player := r.Table.Player
	a := r.Table.Pieces[r.Attacker]
	ok := a.Zone == api.Row && a.Has == player && a.Up && !a.Low
	if r.Target < 0 {
		ok = ok && len(board.In(r.Table, 1-player, api.Row)) == 0
	} else {
		d := r.Table.Pieces[r.Target]
		ok = ok && d.Zone == api.Row && d.Has != player
	}
	if !ok {
		r.Attacker, r.Target, r.Rounds = -1, -1, 0
		return r.stays(api.AtBattle)
	}
	if r.Target >= 0 {
		r.Table.Pieces[r.Target].Up = true
	}
	harm, dies, _ := fight.Outcome(r.Table, r.Attacker, r.Target)
	for who := range uint8(2) { // never both
		if harm[who] > 0 {
			r.Table.Life[who] = max(0, r.Table.Life[who]-harm[who])
			r.note(api.EvDamage, -1, who)
		}
	}
	r.Dies, r.Then = dies, api.ThenDeaths
	return settling
}
