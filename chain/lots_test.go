package chain_test

import (
	"math/rand/v2"
	"reflect"
	"slices"
	"testing"

	"joust/act"
	"joust/aim"
	"joust/api"
	"joust/board"
	"joust/can"
	"joust/chain"
)

// lots draws tables, and what is begun.
type lots struct{ *rand.Rand }

func (l lots) number(n int) uint8 { return uint8(l.IntN(n)) }

// seldom is n once in four times, else 0.
func (l lots) seldom(n int) int {
	if l.IntN(4) == 0 {
		return n
	}
	return 0
}

func (l lots) sel() api.Sel {
	return api.Sel{Side: l.number(4), Zone: []uint8{api.Row, api.Row, api.Back, api.Grave, api.Hand}[l.IntN(5)]}
}

func (l lots) step() api.Step {
	s := api.Step{Do: l.number(api.StNegate + 1), Side: l.number(3), N: num(l.IntN(4) * 50), All: l.IntN(2) == 0, Sel: l.sel()}
	if l.IntN(3) == 0 {
		s.Do = api.StNegate
	}
	return s
}

func (l lots) effect() api.Effect {
	e := api.Effect{Mode: uint8(l.seldom(l.IntN(api.Aura + 2))), Ev: uint8(l.IntN(2) * (api.EvTry + 5*l.IntN(2))), Pay: l.seldom(100*l.IntN(20) - 100), Discard: l.seldom(l.IntN(5) - 1), Tribute: l.IntN(5) == 0, Pick: l.seldom(l.IntN(4) - 1), Sel: l.sel()}
	if l.IntN(8) == 0 {
		e.Cond = []api.Expr{num(l.IntN(2))}
	}
	for range l.IntN(4) {
		e.Steps = append(e.Steps, l.step())
	}
	return e
}

// table is one on which pieces were put as they may be.
func (l lots) table(t *testing.T) api.Table {
	t.Helper()
	x := table(t, nil)
	x.Life = [2]int{l.IntN(2000), l.IntN(2000)}
	for i := range 12 {
		c := api.Card{Kind: uint8(i % (other + 1))}
		for range 1 + l.IntN(3) {
			c.Effects = append(c.Effects, l.effect())
		}
		x.Kinds = append(x.Kinds, c)
	}
	var count [2][api.Nowhere]int
	for range 8 + l.IntN(25) {
		p := api.Piece{Def: l.IntN(len(x.Kinds)), Owner: l.number(2), Zone: l.number(api.Limbo), Up: l.IntN(2) == 0, Used: uint8(l.seldom(l.IntN(8)))}
		unit := x.Kinds[p.Def].Kind == api.Unit
		switch {
		case l.IntN(2) > 0 && unit:
			p.Zone = api.Row
		case l.IntN(2) > 0 && !unit:
			p.Zone = api.Back
		}
		p.Has = p.Owner
		if p.Zone == api.Row || p.Zone == api.Back {
			p.Has ^= l.number(5) / 4
			if unit != (p.Zone == api.Row) || count[p.Has][p.Zone] == api.Slots {
				continue
			}
		}
		p.At = count[p.Has][p.Zone]
		count[p.Has][p.Zone]++
		x.Pieces = append(x.Pieces, p)
	}
	if !board.May(x) {
		t.Fatalf("no table may be so: %+v", x.Pieces)
	}
	return x
}

// reading is a second reading: a table whose pieces are moved one by one.
type reading struct {
	t *testing.T
	x api.Table
}

func (r *reading) put(id int, zone uint8) {
	r.t.Helper()
	x, e := board.Put(r.x, id, zone, r.x.Pieces[id].Has, true, false)
	if e != api.OK {
		r.t.Fatalf("Put(%d, %d): %d", id, zone, e)
	}
	r.x = x
}

func (r *reading) error(who uint8, id, effect int, picks []int) api.Errno {
	if effect >= len(r.x.Kinds[r.x.Pieces[id].Def].Effects) {
		return api.ErrArg
	}
	e, p := r.x.Kinds[r.x.Pieces[id].Def].Effects[effect], r.x.Pieces[id]
	if !slices.Contains([]uint8{api.Play, api.Act, api.Swift, api.When, api.If, api.Must}, e.Mode) {
		return api.ErrArg
	}
	if p.Has != who || !aim.May(r.x, who, id, e, picks) || !can.Afford(r.x, who, id, effect) {
		return api.ErrRule
	}
	if p.Zone == api.Hand && board.Kind(r.x, id) != api.Unit && len(board.In(r.x, who, api.Back)) == api.Slots {
		return api.ErrFull
	}
	return api.OK
}

func (r *reading) begin(who uint8, id, effect int) {
	e := r.x.Kinds[r.x.Pieces[id].Def].Effects[effect]
	unit := board.Kind(r.x, id) == api.Unit
	if unit {
		r.x.Pieces[id].Used |= []uint8{1, 2, 4}[effect]
	} else if zone := r.x.Pieces[id].Zone; zone == api.Hand {
		r.put(id, api.Back)
	} else if zone == api.Back {
		r.x.Pieces[id].Up = true
	}
	if e.Pay > 0 {
		r.x.Life[who] -= e.Pay
	}
	for range max(e.Discard, 0) {
		hand := slices.DeleteFunc(board.In(r.x, who, api.Hand), func(card int) bool { return card == id })
		r.put(hand[len(hand)-1], api.Grave)
	}
	if e.Tribute {
		r.put(id, api.Grave)
	}
}

// end notes of all links which are Dead.
func (r *reading) end(l []api.Link) bool {
	negated, dead := false, make([]bool, len(l))
	for i := len(l) - 1; i >= 0; i-- {
		effects := r.x.Kinds[r.x.Pieces[l[i].Piece].Def].Effects
		if l[i].Effect >= len(effects) || l[i].Who > 1 || l[i].Dead || dead[i] {
			continue
		}
		e := effects[l[i].Effect]
		for _, s := range e.Steps {
			r.x, _ = act.Do(r.x, l[i].Who, l[i].Piece, e, s, l[i].Picks)
			if s.Do != api.StNegate {
				continue
			}
			r.x.Moment++
			negated = negated || e.Ev == api.EvTry
			if e.Ev == api.EvLink && i > 0 {
				dead[i-1] = true
			}
		}
	}
	for _, x := range l {
		p := r.x.Pieces[x.Piece]
		if effects := r.x.Kinds[p.Def].Effects; x.Who < 2 && x.Effect < len(effects) && effects[x.Effect].Mode == api.Play && p.Zone == api.Back && p.Up {
			r.put(x.Piece, api.Grave)
		}
	}
	return negated
}

// P14.1, P14.2, P14.3: chains that are begun and come to their end, by lot, against the second reading.
func TestLots(t *testing.T) {
	lot := lots{rand.New(rand.NewPCG(14, 1))}
	errors := map[api.Errno]int{}
	ends := map[bool]int{}
	for range 3000 {
		r := &reading{t, lot.table(t)}
		var links []api.Link
		for range 12 {
			id, effect, who := lot.IntN(len(r.x.Pieces)), lot.IntN(4), lot.number(2)
			var picks []int
			if e, ok := chain.Effect(r.x, id, effect); ok && lot.IntN(8) > 0 {
				picks = aim.Cards(r.x, who, id, e)
				lot.Shuffle(len(picks), func(i, j int) { picks[i], picks[j] = picks[j], picks[i] })
				picks = picks[:min(max(e.Pick, 0), len(picks))]
			}
			y, link, e := chain.Begin(r.x, who, id, effect, picks)
			want := r.error(who, id, effect, picks)
			told := api.Link{}
			if want == api.OK {
				told = api.Link{Who: who, Piece: id, Effect: effect, Picks: append([]int(nil), picks...), Speed: can.Speed(r.x, id, effect)}
				r.begin(who, id, effect)
				links = append(links, told)
			}
			if e != want || !reflect.DeepEqual(link, told) || !board.Same(y, r.x) || !board.May(y) {
				t.Fatalf("Begin(%d, %d, %d, %v) = %+v, %d; not %d", who, id, effect, picks, link, e, want)
			}
			errors[e]++
			if lot.IntN(10) == 0 {
				links = append(links, api.Link{Who: lot.number(3), Piece: id, Effect: effect, Dead: lot.IntN(2) == 0})
			}
		}
		y, negated := chain.End(r.x, links)
		if want := r.end(links); negated != want || !board.Same(y, r.x) || !board.May(y) {
			t.Fatalf("End of %+v = %v; not %v", links, negated, want)
		}
		ends[negated]++
	}
	for _, e := range []api.Errno{api.OK, api.ErrArg, api.ErrRule, api.ErrFull} {
		if errors[e] < 150 {
			t.Errorf("with %d: %d", e, errors[e])
		}
	}
	if ends[true] < 300 || ends[false] < 300 {
		t.Errorf("ends: %v", ends)
	}
}
