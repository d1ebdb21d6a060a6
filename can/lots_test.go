package can_test

import (
	"math/rand/v2"
	"slices"
	"testing"

	"joust/api"
	"joust/board"
	"joust/can"
	"joust/eval"
	"joust/match"
)

// reading is a second reading: an effect of a piece in a table, for a player.
type reading struct {
	api.Table
	who        uint8
	id, effect int
}

func (r reading) get() (api.Piece, uint8, api.Effect) {
	p := r.Pieces[r.id]
	return p, r.Kinds[p.Def].Kind, r.Kinds[p.Def].Effects[r.effect]
}

func (r reading) speed() uint8 {
	_, kind, e := r.get()
	if e.Mode == api.Play {
		return map[uint8]uint8{api.Unit: 1, api.Spell: 1, api.Quick: 2, api.Trap: 2, api.Counter: 3, other: 3}[kind]
	}
	if e.Mode == api.Swift {
		return 2
	}
	return 1
}

func (r reading) afford() bool {
	p, kind, e := r.get()
	for _, x := range e.Cond {
		if eval.Value(r.Table, r.who, r.id, x) == 0 {
			return false
		}
	}
	if e.Pay != 0 && r.Life[r.who] <= e.Pay {
		return false
	}
	hand := 0
	for id, q := range r.Pieces {
		if q.Has == r.who && q.Zone == api.Hand && id != r.id {
			hand++
		}
	}
	picks := 0
	for _, id := range eval.Count(r.Table, r.who, r.id, e.Sel) {
		if id != r.id || e.Sel.Side == api.Self {
			picks++
		}
	}
	bits := []uint8{1, 2, 4, 8}
	return hand >= e.Discard && picks >= e.Pick && (kind != api.Unit || p.Used&bits[r.effect] == 0)
}

func (r reading) place() bool {
	p, kind, e := r.get()
	if p.Has != r.who {
		return false
	}
	if e.Mode == api.Act || e.Mode == api.Swift {
		return p.Zone == api.Row && p.Up
	}
	back := 0
	for _, q := range r.Pieces {
		if q.Has == r.who && q.Zone == api.Back {
			back++
		}
	}
	hand, down := p.Zone == api.Hand && back < api.Slots, p.Zone == api.Back && !p.Up
	if kind == api.Spell {
		return hand || down
	}
	if kind == api.Quick && hand {
		return r.Player == r.who
	}
	return kind != api.Unit && down && p.Since < r.Turn
}

func (r reading) time(w api.Window) bool {
	_, _, e := r.get()
	if r.speed() == 1 {
		return w.Main && len(w.Links) == 0 && r.who == r.Player
	}
	for i, l := range w.Links {
		if i == len(w.Links)-1 && r.speed() < l.Speed {
			return false
		}
	}
	return !w.Trying || len(w.Links) > 0 || e.Mode == api.Play && e.Ev == api.EvTry
}

func (r reading) upon(w api.Window) bool {
	_, _, e := r.get()
	if e.Mode != api.Play || e.Ev == api.EvNone {
		return true
	}
	if e.Ev == api.EvLink {
		return match.Link(r.who, e.Side, w.Links)
	}
	for _, x := range w.Recent {
		if match.Fits(r.who, r.id, e.Ev, e.Side, x) {
			return true
		}
	}
	return false
}

func (r reading) may(w api.Window) bool {
	_, _, e := r.get()
	return e.Mode <= api.Swift && r.place() && r.time(w) && r.upon(w) && r.afford()
}

func (r reading) trigger() bool {
	p, _, e := r.get()
	if p.Has != r.who || e.Mode < api.When || e.Mode > api.Must || !r.afford() {
		return false
	}
	if p.Zone == api.Grave {
		return e.Ev == api.EvDestroy && e.Side == api.Self
	}
	return p.Zone == api.Row && p.Up
}

// lots draws tables and windows.
type lots struct{ *rand.Rand }

func (l lots) number(n int) uint8 { return uint8(l.IntN(n)) }

func (l lots) yes() bool { return l.IntN(2) == 0 }

// seldom is n once in four times, else 0.
func (l lots) seldom(n int) int {
	if l.IntN(4) == 0 {
		return n
	}
	return 0
}

func (l lots) sel() api.Sel {
	return api.Sel{Side: l.number(4), Zone: []uint8{api.Row, api.Row, api.Back, api.Grave, api.Hand}[l.IntN(5)], Kind: l.number(9) / 7}
}

func (l lots) effect(kind uint8) api.Effect {
	e := api.Effect{Mode: api.Play, Ev: uint8(l.seldom(l.IntN(api.EvEnd + 1))), Side: l.number(4), Pay: l.seldom(100 * l.IntN(20)), Discard: l.seldom(l.IntN(4)), Pick: l.seldom(l.IntN(4)), Sel: l.sel()}
	if kind == api.Unit || l.IntN(20) == 0 {
		e.Mode = l.number(api.Aura + 2)
	}
	if e.Mode >= api.When && l.yes() {
		e.Ev, e.Side = api.EvDestroy, api.Self
	}
	if l.IntN(4) == 0 {
		e.Cond = []api.Expr{{Op: api.ExCount, Sel: l.sel()}}
	}
	return e
}

func (l lots) kinds() []api.Card {
	kinds := make([]api.Card, 8)
	for i := range kinds {
		c := api.Card{Kind: uint8(i % (other + 1)), Attack: 100 * l.IntN(10)}
		for range 1 + l.IntN(4) {
			c.Effects = append(c.Effects, l.effect(c.Kind))
		}
		kinds[i] = c
	}
	return kinds
}

// table is one on which pieces were put as they may be.
func (l lots) table(t *testing.T) api.Table {
	t.Helper()
	x := api.Table{Kinds: l.kinds(), Life: [2]int{l.IntN(2000), l.IntN(2000)}, Turn: 3, Player: l.number(2), Moment: l.IntN(3)}
	var count [2][api.Nowhere]int
	for range 5 + l.IntN(25) {
		p := api.Piece{Def: l.IntN(len(x.Kinds)), Owner: l.number(2), Zone: l.number(api.Limbo), Up: l.yes(), Since: 2 + l.IntN(2)}
		p.Has = p.Owner
		unit := x.Kinds[p.Def].Kind == api.Unit
		if l.yes() {
			p.Zone = api.Back
			if unit {
				p.Zone = api.Row
			}
		}
		if p.Zone == api.Row || p.Zone == api.Back {
			p.Has ^= l.number(9) / 8
		}
		if p.Zone == api.Row && !unit || p.Zone == api.Back && unit {
			continue
		}
		n := &count[p.Has][p.Zone]
		if (p.Zone == api.Row || p.Zone == api.Back) && *n == api.Slots {
			continue
		}
		p.At = *n
		*n++
		if l.IntN(4) == 0 {
			p.Used = l.number(256)
		}
		x.Pieces = append(x.Pieces, p)
	}
	if !board.May(x) {
		t.Fatalf("no table may be so: %+v", x.Pieces)
	}
	return x
}

func (l lots) window() api.Window {
	w := api.Window{Main: l.yes(), Trying: l.IntN(4) == 0}
	for range l.IntN(4) {
		w.Recent = append(w.Recent, api.Event{Ev: l.number(api.EvEnd + 1), Moment: l.IntN(3), Piece: l.IntN(6) - 1, Who: l.number(2)})
	}
	for range max(0, l.IntN(5)-2) {
		w.Links = append(w.Links, api.Link{Who: l.number(2), Speed: 1 + l.number(3)})
	}
	return w
}

// P12.1: all five, by lot, against the second reading.
func TestLots(t *testing.T) {
	lot := lots{rand.New(rand.NewPCG(12, 1))}
	seen := map[string]int{}
	count := func(what string, is, want bool) {
		if is != want {
			t.Fatalf("%s: %v", what, is)
		}
		if is {
			seen[what]++
		}
	}
	for range 3000 {
		x, w := lot.table(t), lot.window()
		for who := range uint8(2) {
			var want []api.Ready
			for id, p := range x.Pieces {
				for effect, e := range x.Kinds[p.Def].Effects {
					r := reading{x, who, id, effect}
					may := r.may(w)
					if may {
						want = append(want, api.Ready{Who: who, Piece: id, Effect: effect})
						seen[[]string{"Play", "Act", "Swift"}[e.Mode]]++
					}
					count("May", can.May(x, who, id, effect, w), may)
					count("Afford", can.Afford(x, who, id, effect), r.afford())
					count("Trigger", can.Trigger(x, who, id, effect), r.trigger())
					if can.Speed(x, id, effect) != r.speed() {
						t.Fatalf("Speed of %+v", e)
					}
				}
			}
			if l := can.All(x, who, w); !slices.Equal(l, want) {
				t.Fatalf("All(%+v) = %v; not %v", w, l, want)
			}
		}
	}
	for _, what := range []string{"Play", "Act", "Swift", "May", "Afford", "Trigger"} {
		if seen[what] < 50 {
			t.Errorf("%v", seen)
		}
	}
}
