package view_test

import (
	"math/rand/v2"
	"reflect"
	"slices"
	"testing"

	"joust/api"
	"joust/board"
	"joust/duel"
	"joust/might"
	"joust/view"
)

// lots draws decks, decisions, and what may be hidden.
type lots struct{ *rand.Rand }

func (l lots) yes(of int) bool { return l.IntN(of) == 0 }

func (l lots) decks(kinds int) [2][]int {
	var decks [2][]int
	for who := range decks {
		for range 10 + l.IntN(api.MaxDeck-9) {
			decks[who] = append(decks[who], l.IntN(kinds))
		}
	}
	return decks
}

// number is an option's, by lot: one who is lazy mostly takes the last one; else a turn isn't ended, nor anything passed, as long as there is much else.
func (l lots) number(options []api.Option, lazy bool) int {
	n := l.IntN(len(options))
	if lazy && !l.yes(4) {
		return len(options) - 1
	}
	for range 2 {
		if do := options[n].Do; do == api.OpEnd || do == api.OpPass {
			n = l.IntN(len(options))
		}
	}
	return n
}

// read is a second reading of what a player sees, zone by zone.
func read(d api.Duel, who uint8) api.View {
	x, asked := d.Table, duel.Ask(d)
	v := api.View{Life: x.Life, Player: x.Player, Turn: x.Turn, Stage: d.Stage, Asked: asked.Who}
	line := map[int]int{}
	for _, zones := range [][]uint8{{api.Hand, api.Row, api.Back, api.Grave, api.Exile, api.Limbo}, {api.Deck}} {
		for has := range uint8(2) {
			for _, zone := range zones {
				for _, id := range board.In(x, has, zone) {
					p := x.Pieces[id]
					s := api.Seen{Zone: zone, At: p.At, Owner: p.Owner, Has: has, Up: p.Up, Low: p.Low, Def: -1}
					if zone == api.Deck {
						s.Up, s.Low = false, false
					} else if isKnown(p, who) {
						s.Known, s.Def, s.Attack = true, p.Def, might.Attack(x, id)
					}
					line[id] = len(v.Pieces)
					v.Pieces = append(v.Pieces, s)
				}
			}
		}
	}
	place := func(id int) int {
		if at, ok := line[id]; ok {
			return at
		}
		return -1
	}
	for _, o := range asked.Options {
		if asked.Who != who || d.Stage == api.AtOver {
			break
		}
		o.Piece = place(o.Piece)
		if o.Do == api.OpSummon || o.Do == api.OpSet || o.Do == api.OpAttack {
			o.Arg = place(o.Arg)
		}
		v.Options = append(v.Options, o)
	}
	return v
}

// otherwise is a duel in which what a player does not know is something else, that may be there.
func (l lots) otherwise(d api.Duel, who uint8) api.Duel {
	d = duel.Copy(d)
	for id, p := range d.Table.Pieces {
		if isKnown(p, who) {
			continue
		}
		def := l.IntN(len(d.Table.Kinds))
		for isUnit := def < rain; p.Zone == api.Row && !isUnit || p.Zone == api.Back && isUnit; isUnit = def < rain {
			def = l.IntN(len(d.Table.Kinds))
		}
		k := d.Table.Kinds[def]
		p.Def, p.Attack, p.Guard = def, k.Attack, k.Guard
		d.Table.Pieces[id] = p
	}
	return d
}

// note counts what a player doesn't know, and where that is.
func note(seen map[string]int, d api.Duel, who uint8) {
	for _, p := range d.Table.Pieces {
		if !isKnown(p, who) {
			seen[[]string{"deck", "hand", "row", "back"}[p.Zone]]++
		} else if p.Zone == api.Row && p.Has != p.Owner {
			seen["other's"]++
		} else if p.Zone == api.Row && p.Def == -1 {
			seen["token"]++
		} else if p.Zone == api.Limbo {
			seen["limbo"]++
		}
	}
	seen[[]string{"lot", "idle", "order", "answer", "pick", "battle", "drop", "over"}[d.Stage]]++
}

// watched asks for both players' views of a duel.
func (l lots) watched(t *testing.T, seen map[string]int, d api.Duel) {
	t.Helper()
	for who := range uint8(2) {
		v := view.Of(d, who)
		if want := read(d, who); !view.Same(v, want) || !slices.Equal(v.Pieces, want.Pieces) || !slices.Equal(v.Options, want.Options) {
			t.Fatalf("%d sees %+v\nnot %+v", who, v, want)
		}
		x := l.otherwise(d, who)
		if w := view.Of(x, who); !board.May(x.Table) || !view.Same(v, w) || !reflect.DeepEqual(v, w) {
			t.Fatalf("%d sees what is hidden: %+v\nthen %+v", who, v, w)
		}
		if p, q := duel.Ask(d), duel.Ask(x); p.Who != q.Who || p.Stage != q.Stage || p.Who == who && !slices.Equal(p.Options, q.Options) {
			t.Fatalf("%d may decide by what is hidden: %v, then %v", who, p, q)
		}
		if !view.Same(view.Of(d, 1-who), view.Of(x, 1-who)) {
			seen["another one"]++
		}
		note(seen, d, who)
	}
}

// P18.1, P18.2, P0.5: duels by lot: each view against the second reading; what a player does not know may be anything.
func TestDuelsByLot(t *testing.T) {
	lot := lots{rand.New(rand.NewPCG(18, 1))}
	seen := map[string]int{}
	kinds := pool(t)
	for i := range 80 {
		d, e := duel.Begin(kinds, lot.decks(len(kinds)))
		if e != api.OK {
			t.Fatal(e)
		}
		for range 200 {
			if d.Stage != api.AtLot || lot.yes(5) {
				lot.watched(t, seen, d)
			}
			if d.Stage == api.AtOver {
				break
			}
			d = decided(t, d, lot.number(duel.Ask(d).Options, i%4 == 0))
		}
	}
	for what, least := range map[string]int{"lot": 500, "idle": 1000, "order": 300, "answer": 1000, "pick": 300, "battle": 300, "drop": 50, "over": 20, "deck": 1000, "hand": 1000, "row": 1000, "back": 1000, "limbo": 300, "token": 1000, "other's": 300, "another one": 1000} {
		if seen[what] < least {
			t.Errorf("%s: %d", what, seen[what])
		}
	}
}

// P18.1: tables by lot, on which anything is Up, or Low.
func TestTablesByLot(t *testing.T) {
	lot := lots{rand.New(rand.NewPCG(18, 2))}
	for range 2000 {
		d := laid(t)
		for id := range d.Table.Pieces {
			p := &d.Table.Pieces[id]
			p.Up, p.Low, p.Boost = lot.yes(2), lot.yes(2), 100*lot.IntN(3)
		}
		d.Stage, d.Asked, d.Table.Player = uint8(lot.IntN(api.AtOver+2)), uint8(lot.IntN(3)), uint8(lot.IntN(2))
		for who := range uint8(2) {
			same(t, "by lot", view.Of(d, who), read(d, who))
		}
	}
}
