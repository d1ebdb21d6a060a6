package trig_test

import (
	"cmp"
	"math/rand/v2"
	"slices"
	"testing"

	"joust/api"
	"joust/board"
	"joust/can"
	"joust/match"
	"joust/trig"
)

// lots draws tables, events and triggers.
type lots struct{ *rand.Rand }

func (l lots) number(n int) uint8 { return uint8(l.IntN(n)) }

func (l lots) effect() api.Effect {
	e := api.Effect{Mode: api.When + l.number(3), Ev: api.EvDestroy - l.number(3)/2, Side: l.number(4)}
	switch l.IntN(8) {
	case 0:
		e.Mode = l.number(api.Aura + 2)
	case 1:
		e.Pay = 100 * l.IntN(20)
	case 2:
		e.Discard = l.IntN(4)
	case 3:
		e.Pick, e.Sel = l.IntN(4), api.Sel{Side: l.number(4), Zone: api.Row}
	}
	return e
}

func (l lots) kinds() []api.Card {
	kinds := make([]api.Card, 6)
	for i := range kinds {
		for range l.IntN(6) {
			kinds[i].Effects = append(kinds[i].Effects, l.effect())
		}
	}
	return kinds
}

// table is one on which pieces were put as they may be.
func (l lots) table(t *testing.T) api.Table {
	t.Helper()
	x := api.Table{Kinds: l.kinds(), Life: [2]int{l.IntN(2000), l.IntN(2000)}, Turn: 3, Player: l.number(2), Moment: l.IntN(3)}
	var count [2][api.Nowhere]int
	for range 4 + l.IntN(14) {
		p := api.Piece{Def: l.IntN(len(x.Kinds)+1) - 1, Owner: l.number(2), Zone: []uint8{api.Row, api.Row, api.Row, api.Grave, api.Hand}[l.IntN(5)], Up: l.IntN(6) > 0}
		p.Has = p.Owner
		if p.Def < 0 {
			p.Zone = api.Row
		}
		if p.Zone == api.Row {
			p.Has ^= l.number(5) / 4
		}
		n := &count[p.Has][p.Zone]
		if p.Zone == api.Row && *n == api.Slots {
			continue
		}
		p.At = *n
		*n++
		if l.IntN(6) == 0 {
			p.Used = l.number(256)
		}
		x.Pieces = append(x.Pieces, p)
	}
	if !board.May(x) {
		t.Fatalf("no table may be so: %+v", x.Pieces)
	}
	return x
}

func (l lots) events() []api.Event {
	events := make([]api.Event, l.IntN(4))
	for i := range events {
		events[i] = api.Event{Ev: api.EvDestroy - l.number(3)/2, Moment: l.IntN(3), Piece: l.IntN(12) - 1, Who: l.number(2)}
	}
	return events
}

// rank is a second reading of the groups: each one's place among them.
func rank(x api.Table, r api.Ready) int {
	n := 0
	if !r.Must {
		n += 2
	}
	if r.Who > 1 || r.Who != x.Player {
		n++
	}
	return n
}

// collect is a second reading: all that come, and then sorted.
func collect(x api.Table, l []api.Event) []api.Ready {
	var all []api.Ready
	for id, p := range x.Pieces {
		if p.Def < 0 {
			continue
		}
		for effect, e := range x.Kinds[p.Def].Effects {
			if can.Trigger(x, p.Has, id, effect) && match.Off(x, p.Has, id, e, l) {
				all = append(all, api.Ready{Who: p.Has, Piece: id, Effect: effect, Must: e.Mode == api.Must})
			}
		}
	}
	slices.SortFunc(all, func(a, b api.Ready) int {
		return cmp.Or(cmp.Compare(rank(x, a), rank(x, b)), cmp.Compare(a.Piece, b.Piece), cmp.Compare(a.Effect, b.Effect))
	})
	return all
}

// group is a second reading: it looks for the least rank ahead of taking those that have it.
func group(x api.Table, l []api.Ready) []api.Ready {
	least := 4
	for _, r := range l {
		least = min(least, rank(x, r))
	}
	return slices.DeleteFunc(slices.Clone(l), func(r api.Ready) bool { return rank(x, r) != least })
}

// left is a second reading.
func left(x api.Table, l []api.Ready) []api.Ready {
	return slices.DeleteFunc(slices.Clone(l), func(r api.Ready) bool { return !can.Trigger(x, r.Who, r.Piece, r.Effect) })
}

// P13.1: all three, by lot, against the second readings.
func TestLots(t *testing.T) {
	lot := lots{rand.New(rand.NewPCG(13, 1))}
	seen := [4]int{}
	for range 5000 {
		x, events := lot.table(t), lot.events()
		all := collect(x, events)
		collects(t, "by lot", x, events, all...)
		for _, r := range all {
			seen[rank(x, r)]++
		}
		told := slices.Clone(all)
		for range lot.IntN(5) {
			told = append(told, api.Ready{Who: lot.number(9) / 4, Piece: lot.IntN(len(x.Pieces)+2) - 1, Effect: lot.IntN(7) - 1, Must: lot.IntN(2) == 0})
		}
		lot.Shuffle(len(told), func(i, j int) { told[i], told[j] = told[j], told[i] })
		if g, want := trig.Group(x, told), group(x, told); !slices.Equal(g, want) {
			t.Fatalf("Group of %v = %v; not %v", told, g, want)
		}
		later := lot.table(t)
		later.Kinds = x.Kinds
		leaves(t, "by lot", later, told, left(later, told)...)
		if t.Failed() {
			return
		}
	}
	for i, n := range seen {
		if n < 500 {
			t.Errorf("of the group %d: %d", i, n)
		}
	}
}
