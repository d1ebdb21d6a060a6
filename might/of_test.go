package might_test

import (
	"math/rand/v2"
	"testing"

	"joust/api"
	"joust/might"
)

// spread is a table with something of each player in each zone.
func spread(t *testing.T) api.Table {
	t.Helper()
	var l []laid
	for who := range uint8(2) {
		for _, zone := range []uint8{api.Deck, api.Hand, api.Grave, api.Exile} {
			for def := range odd + 1 {
				l = append(l, laid{def, who, who, zone, who == 0})
			}
		}
		l = append(l, laid{pawn, who, who, api.Row, true}, laid{lord, 1 - who, who, api.Row, false}, laid{-1, 1 - who, who, api.Row, true}, laid{-1, who, who, api.Row, false}, laid{-1, who, who, api.Nowhere, false},
			laid{net, who, who, api.Back, false}, laid{net, who, who, api.Back, true}, laid{rain, 1 - who, who, api.Back, true}, laid{wind, who, who, api.Back, false}, laid{odd, who, who, api.Back, true})
	}
	return table(t, pool(), append(l, laid{pawn, 0, 1, api.Limbo, true})...)
}

// isOf is a second reading of Of: each reason for a no.
func isOf(x api.Table, who uint8, from int, sel api.Sel, id int) bool {
	p := x.Pieces[id]
	kind := uint8(api.Unit)
	if p.Def >= 0 {
		kind = x.Kinds[p.Def].Kind
	}
	inTheOpen := p.Zone == api.Row || p.Zone == api.Back
	switch {
	case who > 1, sel.Side > api.Self, sel.Zone != p.Zone:
		return false
	case sel.Side == api.Self && id != from, sel.Side == api.Mine && p.Has != who, sel.Side == api.Theirs && p.Has == who:
		return false
	case sel.Kind == 0:
		return true
	}
	return int(sel.Kind) == int(kind)+1 && (p.Up || !inTheOpen)
}

// P7.1: Of each piece, of each side, zone, kind, as each player sees it, for some pieces.
func TestOf(t *testing.T) {
	x := spread(t)
	var counts [2]int
	for id := range x.Pieces {
		for _, from := range []int{id, 0, len(x.Pieces) - 1} {
			for who := range uint8(3) {
				for side := range uint8(6) {
					for zone := range uint8(api.Nowhere + 2) {
						for _, kind := range []uint8{0, 1, 2, 3, 4, 5, 6, 99, 100, 101, 255} {
							sel := api.Sel{Side: side, Zone: zone, Kind: kind}
							want := isOf(x, who, from, sel, id)
							if might.Of(x, who, from, sel, id) != want {
								t.Fatalf("Of(%d, %d, %+v, %d) = %v", who, from, sel, id, !want)
							}
							if want {
								counts[1]++
							} else {
								counts[0]++
							}
						}
					}
				}
			}
		}
	}
	if min(counts[0], counts[1]) < 1000 {
		t.Errorf("%v answers", counts)
	}
}

// P7.1: of no player, of a side that is none, for all of them.
func TestOfNobody(t *testing.T) {
	x := spread(t)
	for n := range 256 {
		for id, p := range x.Pieces {
			if who := uint8(n); who > 1 && might.Of(x, who, id, api.Sel{Side: uint8(id % 4), Zone: p.Zone}, id) {
				t.Errorf("of player %d", n)
			}
			if side := uint8(n); side > api.Self && might.Of(x, p.Has, id, api.Sel{Side: side, Zone: p.Zone}, id) {
				t.Errorf("of side %d", n)
			}
		}
	}
}

// P7.1: of a piece that is seen face down in Row or Back its kind is not asked; elsewhere it is.
func TestOfKinds(t *testing.T) {
	x := table(t, pool(), laid{pawn, 0, 0, api.Row, false}, laid{net, 0, 0, api.Back, false}, laid{pawn, 0, 0, api.Hand, false}, laid{net, 0, 0, api.Deck, false}, laid{pawn, 0, 0, api.Limbo, false}, laid{odd, 0, 0, api.Hand, true})
	for id, want := range [][3]bool{{true, false, true}, {true, false, true}, {true, true, true}, {true, true, true}, {true, true, true}, {true, true, true}} {
		zone, kind := x.Pieces[id].Zone, []uint8{api.Unit, api.Trap, api.Unit, api.Trap, api.Unit, 99}[id]
		down := [2]bool{might.Of(x, 0, id, api.Sel{Zone: zone}, id), might.Of(x, 0, id, api.Sel{Zone: zone, Kind: kind + 1}, id)}
		x.Pieces[id].Up = true
		if up := might.Of(x, 0, id, api.Sel{Zone: zone, Kind: kind + 1}, id); down != [2]bool{want[0], want[1]} || up != want[2] || might.Of(x, 0, id, api.Sel{Zone: zone, Kind: kind + 2}, id) {
			t.Errorf("%d: %v, %v", id, down, up)
		}
	}
}

// sum is a second reading of Attack: all that is given is added up, in numbers that are wide enough, by what isOf tells.
func sum(x api.Table, id int) int {
	p := x.Pieces[id]
	total := p.Attack + max(-99999, min(p.Boost, 99999))
	for from, q := range x.Pieces {
		if p.Zone != api.Row || q.Zone != api.Row || !q.Up || q.Def == -1 {
			continue
		}
		for _, e := range x.Kinds[q.Def].Effects {
			for _, s := range e.Steps {
				if e.Mode == api.Aura && s.Do == api.StBoost && s.All && s.N.Op == api.ExNumber && isOf(x, q.Has, from, s.Sel, id) {
					total += max(0, min(s.N.N, 99999))
				}
			}
		}
	}
	return max(0, min(total, 99999))
}

// anyEffect is one by lot, mostly an aura.
func anyEffect(lot *rand.Rand) api.Effect {
	e := aura()
	if lot.IntN(8) == 0 {
		e.Mode = uint8(lot.IntN(7))
	}
	for range lot.IntN(4) {
		s := gift([]int{-50, 0, 7, 300, 4000, 70000, 1 << 40}[lot.IntN(7)], api.Sel{Side: uint8(lot.IntN(5)), Zone: []uint8{api.Row, api.Row, api.Row, api.Hand}[lot.IntN(4)], Kind: uint8(lot.IntN(3))})
		s.All = lot.IntN(8) > 0
		if lot.IntN(8) == 0 {
			s.Do, s.N.Op = uint8(lot.IntN(11)), uint8(lot.IntN(3))
		}
		e.Steps = append(e.Steps, s)
	}
	return e
}

// P7.1: Attack by lot, against the second reading.
func TestAttackByLot(t *testing.T) {
	lot := rand.New(rand.NewPCG(7, 1))
	more, most := 0, 0
	for range 3000 {
		kinds := pool(anyEffect(lot), anyEffect(lot), anyEffect(lot))
		kinds[pawn].Effects = []api.Effect{anyEffect(lot)}
		var l []laid
		for who := range uint8(2) {
			for range lot.IntN(api.Slots + 1) {
				l = append(l, laid{lot.IntN(3) - 1, uint8(lot.IntN(2)), who, api.Row, lot.IntN(4) > 0})
			}
			l = append(l, laid{lord, who, who, api.Hand, false})
		}
		x := table(t, kinds, l...)
		for id := range x.Pieces {
			p := &x.Pieces[id]
			p.Attack = lot.IntN(3000)
			p.Boost = []int{0, 0, -500, 2000, -90000, 99000}[lot.IntN(6)]
		}
		for id, p := range x.Pieces {
			want := sum(x, id)
			if n := might.Attack(x, id); n != want {
				t.Fatalf("Attack(%d) = %d; not %d, of %+v", id, n, want, x)
			}
			if want > p.Attack+p.Boost && p.Boost >= 0 {
				more++
			}
			if want == api.MaxNumber {
				most++
			}
		}
	}
	if more < 1000 || most < 1000 {
		t.Errorf("%d got more, %d all", more, most)
	}
}
