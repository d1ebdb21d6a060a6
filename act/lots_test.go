package act_test

import (
	"math"
	"math/rand/v2"
	"slices"
	"testing"

	"joust/act"
	"joust/aim"
	"joust/api"
	"joust/board"
	"joust/eval"
)

// reading is a second reading of a step: a table that is written on by hand, what happened, and whether anything was done.
type reading struct {
	api.Table
	happened []api.Event
	did      bool
}

func isPile(zone uint8) bool {
	return slices.Contains([]uint8{api.Deck, api.Hand, api.Grave, api.Exile}, zone)
}

// at are the pieces of a zone of a player, by places, with -1 where none is.
func (r *reading) at(who, zone uint8) []int {
	l := slices.Repeat([]int{-1}, api.MaxCards)
	last := 0
	for id, p := range r.Pieces {
		if p.Has == who && p.Zone == zone {
			l[p.At] = id
			last = max(last, p.At+1)
		}
	}
	if isPile(zone) {
		return l[:last]
	}
	return l[:api.Slots]
}

// goes writes down that a piece is elsewhere: with who in Row, if there is room, else with its owner.
func (r *reading) goes(id int, zone, who uint8) bool {
	was := r.Pieces[id]
	p := api.Piece{Def: was.Def, Attack: was.Attack, Guard: was.Guard, Owner: was.Owner, Has: was.Owner, Zone: zone, Since: r.Turn}
	switch {
	case zone == api.Row:
		p.Has, p.Up = who, true
		p.At = slices.Index(r.at(who, api.Row), -1)
		if p.At < 0 {
			return false
		}
	case p.Def < 0:
		p.Zone = api.Nowhere
	default:
		p.At = len(r.at(p.Has, zone))
		p.Up = zone == api.Grave || zone == api.Exile
	}
	r.Pieces[id] = p
	for other := range r.Pieces {
		if q := &r.Pieces[other]; other != id && isPile(was.Zone) && q.Zone == was.Zone && q.Has == was.Has && q.At > was.At {
			q.At--
		}
	}
	r.did = true
	return true
}

// step is a step that is about some pieces.
func (r *reading) step(who uint8, s api.Step, n int, about []int) {
	for _, id := range about {
		was := r.Pieces[id]
		placed := was.Zone == api.Row || was.Zone == api.Back
		switch {
		case s.Do == api.StDestroy && placed:
			r.goes(id, api.Grave, 9)
			r.happened = append(r.happened, event(api.EvDestroy, id, was.Has))
		case s.Do == api.StBanish && (placed || was.Zone == api.Grave):
			r.goes(id, api.Exile, 9)
		case s.Do == api.StBounce && (placed || was.Zone == api.Grave):
			r.goes(id, api.Hand, 9)
		case s.Do == api.StBoost && was.Zone == api.Row && was.Up && n != 0:
			r.Pieces[id].Boost = min(max(was.Boost+n, -api.MaxNumber), api.MaxNumber)
			r.did = true
		case s.Do == api.StRevive && was.Zone == api.Grave && board.Kind(r.Table, id) == api.Unit && r.goes(id, api.Row, who):
			r.happened = append(r.happened, event(api.EvSummon, id, who))
		}
	}
	for _, p := range []uint8{who, 1 - who} {
		if s.Side == api.Any || s.Side <= api.Self && (s.Side == api.Theirs) == (p != who) {
			r.stepOf(p, s.Do, max(n, 0))
		}
	}
}

// stepOf is a step of one of its players.
func (r *reading) stepOf(who, do uint8, n int) {
	switch do {
	case api.StDraw, api.StMill:
		deck := r.at(who, api.Deck)
		for _, id := range deck[:min(n, len(deck))] {
			r.goes(id, map[uint8]uint8{api.StDraw: api.Hand, api.StMill: api.Grave}[do], 9)
		}
		if do == api.StDraw && n > len(deck) && !r.Lost[who] {
			r.Lost[who], r.did = true, true
		}
	case api.StDamage, api.StHeal:
		if n == 0 {
			return
		}
		r.did = true
		if do == api.StHeal {
			r.Life[who] = min(r.Life[who]+n, api.MaxLife)
			return
		}
		r.Life[who] = max(r.Life[who]-n, 0)
		r.happened = append(r.happened, event(api.EvDamage, -1, who))
	case api.StToken:
		at := slices.Index(r.at(who, api.Row), -1)
		if at < 0 || len(r.Pieces) == api.MaxCards {
			return
		}
		r.did = true
		r.happened = append(r.happened, event(api.EvSummon, len(r.Pieces), who))
		r.Pieces = append(r.Pieces, api.Piece{Def: -1, Attack: n, Owner: who, Has: who, Zone: api.Row, At: at, Up: true, Since: r.Turn})
	}
}

// end is the table with what happened.
func (r *reading) end() api.Table {
	if r.did {
		r.Moment++
	}
	for _, e := range r.happened {
		e.Moment = r.Moment
		r.Events = append(r.Events, e)
	}
	return r.Table
}

// someTable is a table whose pieces were put by lot, each with something that it may lose.
func someTable(t *testing.T, lot *rand.Rand) api.Table {
	t.Helper()
	var decks [2][]int
	for who := range decks {
		for range lot.IntN(22) {
			decks[who] = append(decks[who], lot.IntN(net+1)*lot.IntN(2))
		}
	}
	x, e := board.New(pool(), decks)
	if e != api.OK {
		t.Fatal(e)
	}
	for range lot.IntN(5) {
		x, _, _ = board.Token(x, uint8(lot.IntN(2)), lot.IntN(900))
	}
	for range lot.IntN(60) {
		if len(x.Pieces) > 0 {
			x, _ = board.Put(x, lot.IntN(len(x.Pieces)), uint8(lot.IntN(api.Nowhere)), uint8(lot.IntN(2)), lot.IntN(4) > 0, lot.IntN(2) == 0)
		}
	}
	for id := range x.Pieces {
		p := &x.Pieces[id]
		p.Used, p.Struck, p.Turned, p.Since, p.Boost = uint8(lot.IntN(4)), lot.IntN(2) == 0, lot.IntN(2) == 0, lot.IntN(9), (lot.IntN(5)-2)*49000
	}
	x.Life = [2]int{lot.IntN(3) * 400, api.MaxLife - lot.IntN(3)*400}
	x.Turn, x.Player, x.Lost = 1+lot.IntN(9), uint8(lot.IntN(2)), [2]bool{lot.IntN(3) == 0, lot.IntN(3) == 0}
	x.Moment = []int{0, 7, math.MaxInt}[lot.IntN(3)]
	x.Events = make([]api.Event, lot.IntN(3))
	return x
}

// someNumber is an expression by lot.
func someNumber(lot *rand.Rand) api.Expr {
	switch lot.IntN(4) {
	case 0:
		return api.Expr{Op: api.ExCount, Sel: api.Sel{Side: uint8(lot.IntN(4)), Zone: uint8(lot.IntN(api.Nowhere))}}
	case 1:
		return api.Expr{Op: api.ExSub, Args: []api.Expr{num(lot.IntN(500)), {Op: api.ExAttack}}}
	}
	return num([]int{0, 1, 2, 3, 300, api.MaxNumber}[lot.IntN(6)])
}

// P10.1, P10.2: steps by lot, one behind the other, against the second reading.
func TestLots(t *testing.T) {
	var counts [api.StNegate + 1][2]int
	for seed := range uint64(1500) {
		lot := rand.New(rand.NewPCG(10, seed))
		x := someTable(t, lot)
		for range 12 {
			who, id := uint8(lot.IntN(2)), lot.IntN(len(x.Pieces)+1)
			sel := api.Sel{Side: uint8(lot.IntN(9)) / 2, Zone: []uint8{api.Row, api.Row, api.Back, api.Grave, api.Grave, uint8(lot.IntN(9))}[lot.IntN(6)], Kind: uint8(lot.IntN(9)) / 7}
			e := api.Effect{Pick: lot.IntN(9), Sel: sel}
			s := api.Step{Do: uint8(lot.IntN(api.StNegate + 1)), Side: uint8(lot.IntN(17)) / 4, N: someNumber(lot), All: lot.IntN(2) == 0, Sel: sel}
			picks := make([]int, lot.IntN(9))
			for i := range picks {
				picks[i] = lot.IntN(len(x.Pieces)+2) - 1
			}
			want := reading{Table: board.Copy(x)}
			if id < len(x.Pieces) {
				want.step(who, s, eval.Value(x, who, id, s.N), aim.Targets(x, who, id, e, s, picks))
			}
			y, did := act.Do(x, who, id, e, s, picks)
			if did != want.did || !board.Same(y, want.end()) || !board.May(y) {
				t.Fatalf("%d: Do(%d, %d, %+v, %+v, %v) = %+v, %v; not %+v", seed, who, id, e, s, picks, y, did, want.Table)
			}
			if did {
				counts[s.Do][1]++
			} else {
				counts[s.Do][0]++
			}
			wantSamePieces(t, x, y, s.Do)
			x = y
		}
	}
	for do, c := range counts {
		if c[0] < 90 || c[1] < 90 && do != api.StNegate {
			t.Errorf("step %d: %v", do, c)
		}
	}
}

// wantSamePieces holds that no piece comes or goes but tokens: each piece stays the card it was.
func wantSamePieces(t *testing.T, was, x api.Table, do uint8) {
	t.Helper()
	if len(x.Pieces) != len(was.Pieces) && do != api.StToken {
		t.Fatalf("step %d: %d pieces of %d", do, len(x.Pieces), len(was.Pieces))
	}
	for id, p := range x.Pieces {
		if id >= len(was.Pieces) {
			if p.Def != -1 {
				t.Fatalf("a card came: %+v", p)
			}
			continue
		}
		if q := was.Pieces[id]; p.Def != q.Def || p.Owner != q.Owner || p.Attack != q.Attack || p.Guard != q.Guard {
			t.Fatalf("piece %d is %+v; was %+v", id, p, q)
		}
	}
}
