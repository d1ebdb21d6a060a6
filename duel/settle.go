package duel

import (
	"joust/api"
	"joust/trig"
)

// settle looks at what happened; where nothing comes of that, what is kept comes.
func (g *game) settle(then uint8) {
	g.Then = then
	if g.isLost() {
		return
	}
	g.Recent, g.Table.Events = g.Table.Events, nil
	g.Waits = trig.Collect(g.Table, g.Recent)
	switch {
	case len(g.Waits) == 0:
		g.goOn()
	case g.Rounds >= api.MaxRounds:
		g.over(api.ByRounds, nobody)
	default:
		g.Rounds++
		g.order()
	}
}

// isLost tells whether a player lost: then it is over.
func (g *game) isLost() bool {
	lost, reason := g.Table.Lost, uint8(api.ByDeck)
	for who, life := range g.Table.Life {
		if life == 0 {
			lost[who], reason = true, api.ByLife
		}
	}
	switch {
	case lost[0] && lost[1]:
		g.over(reason, nobody)
	case lost[0]:
		g.over(reason, 1)
	case lost[1]:
		g.over(reason, 0)
	}
	return lost[0] || lost[1]
}

func (g *game) over(reason, winner uint8) {
	g.Stage, g.Reason, g.Winner = api.AtOver, reason, winner
}

// order asks in which order triggers come, as long as some may.
func (g *game) order() {
	g.Waits = trig.Left(g.Table, g.Waits)
	switch last := len(g.Links) - 1; {
	case len(g.Waits) > 0:
		g.Stage = api.AtOrder
	case last >= 0:
		g.answers(other(g.Links[last].Who))
	default:
		g.goOn()
	}
}

// goOn opens a window that is due, ahead of what is kept.
func (g *game) goOn() {
	if !g.Due {
		g.come()
		return
	}
	g.Due = false
	g.answers(g.Table.Player)
}

// come does what is kept.
func (g *game) come() {
	comes, ok := coming()[g.Then]
	if !ok {
		panic(api.ErrState)
	}
	comes(g)
}

// coming is what comes, by what is kept.
func coming() map[uint8]func(*game) {
	return map[uint8]func(*game){
		api.ThenIdle:   (*game).idle,
		api.ThenPlace:  (*game).place,
		api.ThenStrike: (*game).strike,
		api.ThenDeaths: (*game).deaths,
		api.ThenBattle: (*game).battle,
		api.ThenDrop:   (*game).drop,
	}
}
