package duel

import (
	"slices"

	"joust/api"
	"joust/board"
	"joust/idle"
	"joust/trig"
)

// decisions tells at each stage at which somebody is asked what comes of an option.
func decisions() map[uint8]func(*game, api.Option) {
	return map[uint8]func(*game, api.Option){
		api.AtLot:    (*game).decideLot,
		api.AtIdle:   (*game).decideIdle,
		api.AtOrder:  (*game).decideOrder,
		api.AtAnswer: (*game).decideAnswer,
		api.AtPick:   (*game).decidePick,
		api.AtBattle: (*game).decideBattle,
		api.AtDrop:   (*game).decideDrop,
	}
}

func (g *game) decideLot(o api.Option) {
	deck := board.In(g.Table, g.Whose, api.Deck)
	g.put(deck[o.Arg], api.Deck, g.Whose)
	g.Lots--
	switch {
	case g.Lots > 0:
	case g.Whose == 0:
		g.Whose, g.Lots = 1, len(board.In(g.Table, 1, api.Deck))
	default:
		g.draw(0, api.FirstHand)
		g.draw(1, api.FirstHand)
		g.turn()
	}
}

func (g *game) decideIdle(o api.Option) {
	switch o.Do {
	case api.OpSummon:
		g.summon(o)
	case api.OpSet:
		g.do(o)
		g.Summoned = true
		g.settle(api.ThenIdle)
	case api.OpLay, api.OpTurn:
		g.do(o)
		g.settle(api.ThenIdle)
	case api.OpPlay:
		g.Then = api.ThenIdle
		g.activate(api.Ready{Who: g.Table.Player, Piece: o.Piece, Effect: o.Arg}, false)
	case api.OpBattle:
		g.settle(api.ThenBattle)
	case api.OpEnd:
		g.end()
	}
}

// do does what idle tells of an option of its own.
func (g *game) do(o api.Option) {
	t, e := idle.Do(g.Table, o)
	must(e)
	g.Table = t
}

func (g *game) decideOrder(o api.Option) {
	group := trig.Group(g.Table, g.Waits)
	if o.Do == api.OpPass {
		g.Waits = without(g.Waits, group)
		g.order()
		return
	}
	chosen := slices.IndexFunc(group, func(r api.Ready) bool { return card(r) == o })
	g.Waits = without(g.Waits, group[chosen:chosen+1])
	g.activate(group[chosen], true)
}

// without is a list without some of it, which are told as they stand there.
func without(l, some []api.Ready) []api.Ready {
	var left []api.Ready
	for _, r := range l {
		if len(some) > 0 && r == some[0] {
			some = some[1:]
		} else {
			left = append(left, r)
		}
	}
	return left
}

func (g *game) decideAnswer(o api.Option) {
	if o.Do == api.OpCard {
		g.activate(api.Ready{Who: g.Asked, Piece: o.Piece, Effect: o.Arg}, false)
		return
	}
	g.Passes++
	switch {
	case g.Passes < 2:
		g.Asked = other(g.Asked)
	case len(g.Links) > 0:
		g.undo()
	case g.Trying:
		g.come()
	default:
		g.settle(g.Then)
	}
}

func (g *game) decidePick(o api.Option) {
	g.Choice.Picks = append(g.Choice.Picks, o.Piece)
	g.choose()
}

func (g *game) decideBattle(o api.Option) {
	if o.Do == api.OpEnd {
		g.Second = true
		g.settle(api.ThenIdle)
		return
	}
	g.Table.Pieces[o.Piece].Struck = true
	g.Attacker, g.Target = o.Piece, o.Arg
	g.happen(api.Event{Ev: api.EvAttack, Piece: o.Piece, Who: g.Table.Player})
	g.Due = true
	g.settle(api.ThenStrike)
}

func (g *game) decideDrop(o api.Option) {
	g.bury(o.Piece)
	g.settle(api.ThenDrop)
}
