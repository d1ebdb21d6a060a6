package view

import (
	"slices"

	"joust/api"
	"joust/might"
)

// token is the Def of a token; hidden is that of what is not known.
const (
	token  = -1
	hidden = -1
)

// key tells where a piece's line stands: decks behind all else; who has it, its zone, its place.
type key [4]int

func keyOf(p api.Piece) key {
	behind := 0
	if p.Zone == api.Deck {
		behind = 1
	}
	return key{behind, int(p.Has), int(p.Zone), p.At}
}

func compare(a, b key) int { return slices.Compare(a[:], b[:]) }

// lines are the pieces that have a line, in the order of the lines.
func lines(t api.Table) []int {
	var ids []int
	for id, p := range t.Pieces {
		if p.Zone != api.Nowhere {
			ids = append(ids, id)
		}
	}
	slices.SortStableFunc(ids, func(a, b int) int { return compare(keyOf(t.Pieces[a]), keyOf(t.Pieces[b])) })
	return ids
}

// sight is a piece as a player sees it.
func sight(t api.Table, id int, who uint8) api.Seen {
	p := t.Pieces[id]
	s := api.Seen{Zone: p.Zone, At: p.At, Owner: p.Owner, Has: p.Has, Def: hidden}
	if p.Zone == api.Deck {
		return s
	}
	s.Up, s.Low = p.Up, p.Low
	if Known(t, id, who) {
		s.Known, s.Def, s.Attack = true, p.Def, might.Attack(t, id)
	}
	return s
}

// byLines are options, told by lines: a piece's number would tell which card of its deck it is.
func byLines(l []api.Option, ids []int) []api.Option {
	var told []api.Option
	for _, o := range l {
		o.Piece = slices.Index(ids, o.Piece)
		switch o.Do {
		case api.OpSummon, api.OpSet, api.OpAttack:
			o.Arg = slices.Index(ids, o.Arg)
		}
		told = append(told, o)
	}
	return told
}
