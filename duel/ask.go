package duel

import (
	"slices"

	"joust/aim"
	"joust/api"
	"joust/board"
	"joust/can"
	"joust/chain"
	"joust/fight"
	"joust/idle"
	"joust/trig"
)

// asks tells at each stage who is asked, and what may be decided; at one that it has not nobody is.
func asks() map[uint8]func(api.Duel) (uint8, []api.Option) {
	return map[uint8]func(api.Duel) (uint8, []api.Option){
		api.AtLot:    lotAsked,
		api.AtIdle:   idleAsked,
		api.AtOrder:  orderAsked,
		api.AtAnswer: answerAsked,
		api.AtPick:   pickAsked,
		api.AtBattle: battleAsked,
		api.AtDrop:   dropAsked,
	}
}

// pass lets others go ahead.
var pass = api.Option{Do: api.OpPass, Piece: none, Arg: none}

// card is the option to activate an effect.
func card(r api.Ready) api.Option {
	return api.Option{Do: api.OpCard, Piece: r.Piece, Arg: r.Effect}
}

// each is an option to do something with each of some pieces.
func each(do uint8, ids []int) []api.Option {
	var l []api.Option
	for _, id := range ids {
		l = append(l, api.Option{Do: do, Piece: id, Arg: none})
	}
	return l
}

// lotAsked never tells more places than the deck has, whatever Lots is.
func lotAsked(d api.Duel) (uint8, []api.Option) {
	var l []api.Option
	for place := range min(d.Lots, len(board.In(d.Table, d.Whose, api.Deck))) {
		l = append(l, api.Option{Do: api.OpLot, Piece: none, Arg: place})
	}
	return d.Whose, l
}

func idleAsked(d api.Duel) (uint8, []api.Option) {
	return d.Table.Player, idle.Options(d.Table, d.Summoned, d.Second)
}

func orderAsked(d api.Duel) (uint8, []api.Option) {
	group := trig.Group(d.Table, d.Waits)
	if len(group) == 0 {
		return 0, nil
	}
	var l []api.Option
	for _, r := range group {
		l = append(l, card(r))
	}
	if !group[0].Must {
		l = append(l, pass)
	}
	return group[0].Who, l
}

func answerAsked(d api.Duel) (uint8, []api.Option) {
	l := []api.Option{pass}
	for _, r := range can.All(d.Table, d.Asked, api.Window{Trying: d.Trying, Recent: d.Recent, Links: d.Links}) {
		l = append(l, card(r))
	}
	return d.Asked, l
}

func pickAsked(d api.Duel) (uint8, []api.Option) {
	r, picked := d.Choice.Ready, d.Choice.Picks
	e, _ := chain.Effect(d.Table, r.Piece, r.Effect)
	left := slices.DeleteFunc(aim.Cards(d.Table, r.Who, r.Piece, e), func(id int) bool { return slices.Contains(picked, id) })
	return r.Who, each(api.OpPick, left)
}

func battleAsked(d api.Duel) (uint8, []api.Option) {
	return d.Table.Player, fight.Attacks(d.Table, d.Table.Player)
}

func dropAsked(d api.Duel) (uint8, []api.Option) {
	return d.Table.Player, each(api.OpDrop, board.In(d.Table, d.Table.Player, api.Hand))
}
