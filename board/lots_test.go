package board_test

import (
	"math/rand/v2"
	"slices"
	"testing"

	"joust/api"
	"joust/board"
)

// lying is a second reading of where pieces lie: lists of their numbers, of each player in each zone, in which -1 is a free place.
type lying [2][8][]int

// layOut tells a new table's.
func layOut(x api.Table) lying {
	var l lying
	for who := range l {
		l[who][api.Row] = slices.Repeat([]int{-1}, api.Slots)
		l[who][api.Back] = slices.Repeat([]int{-1}, api.Slots)
	}
	for id, p := range x.Pieces {
		l[p.Owner][api.Deck] = append(l[p.Owner][api.Deck], id)
	}
	return l
}

// put is the error, or api.OK and the piece elsewhere, at the first free place, behind all others, or alone.
func (l *lying) put(x api.Table, id int, zone, who uint8) api.Errno {
	if who > 1 || zone > api.Limbo {
		return api.ErrArg
	}
	if id < 0 || id >= len(x.Pieces) || slices.Contains(l[0][api.Nowhere], id) || slices.Contains(l[1][api.Nowhere], id) {
		return api.ErrNone
	}
	p := x.Pieces[id]
	isToken, isUnit := p.Def == -1, board.Kind(x, id) == api.Unit
	switch {
	case isToken && zone != api.Row:
		zone, who = api.Nowhere, p.Owner
	case zone == api.Row || zone == api.Back:
		if isUnit != (zone == api.Row) {
			return api.ErrArg
		}
		at := slices.Index(l[who][zone], -1)
		if at < 0 {
			return api.ErrFull
		}
		l.leave(id)
		l[who][zone][at] = id
		return api.OK
	case zone == api.Limbo:
		if !isUnit {
			return api.ErrArg
		}
		if other := append(slices.Clone(l[0][zone]), l[1][zone]...); len(other) > 0 && other[0] != id {
			return api.ErrFull
		}
	default:
		who = p.Owner
	}
	l.leave(id)
	l[who][zone] = append(l[who][zone], id)
	return api.OK
}

func (l *lying) leave(id int) {
	for who := range l {
		for zone := range l[who] {
			at := slices.Index(l[who][zone], id)
			switch {
			case at < 0:
			case zone == api.Row || zone == api.Back:
				l[who][zone][at] = -1
			default:
				l[who][zone] = slices.Delete(l[who][zone], at, at+1)
			}
		}
	}
}

// token is the error, or api.OK and a token more.
func (l *lying) token(x api.Table, who uint8, attack int) api.Errno {
	if who > 1 || attack < 0 || attack > api.MaxNumber {
		return api.ErrArg
	}
	at := slices.Index(l[who][api.Row], -1)
	if at < 0 || len(x.Pieces) >= api.MaxCards {
		return api.ErrFull
	}
	l[who][api.Row][at] = len(x.Pieces)
	return api.OK
}

// held holds a table against it.
func (l *lying) held(t *testing.T, x api.Table) {
	t.Helper()
	count := 0
	for who := range l {
		for zone, ids := range l[who] {
			var there []int
			for at, id := range ids {
				if id < 0 {
					continue
				}
				count++
				there = append(there, id)
				p := x.Pieces[id]
				if zone == api.Nowhere {
					at = 0
				}
				if int(p.Has) != who || int(p.Zone) != zone || p.At != at {
					t.Fatalf("piece %d is %+v; not with %d, in %d, at %d", id, p, who, zone, at)
				}
			}
			if zone == api.Nowhere {
				slices.Sort(there)
			}
			wantIn(t, x, uint8(who), uint8(zone), there...)
		}
		wantFree(t, x, uint8(who), api.Row, slices.Index(l[who][api.Row], -1))
		wantFree(t, x, uint8(who), api.Back, slices.Index(l[who][api.Back], -1))
	}
	if count != len(x.Pieces) || !board.May(x) || !reading(x) {
		t.Fatalf("%d pieces of %d; May = %v of %+v", count, len(x.Pieces), board.May(x), x.Pieces)
	}
}

// P6.2, P6.3: pieces and tokens that are put by lot: each is in one place, as a second reading has it; each table may be.
func TestPutByLot(t *testing.T) {
	var counts [api.ErrState + 1]int
	for seed := range uint64(60) {
		lot := rand.New(rand.NewPCG(6, seed))
		decks := [2][]int{}
		for who := range decks {
			for range 2 + lot.IntN(12) {
				decks[who] = append(decks[who], lot.IntN(odd+1)*lot.IntN(2))
			}
		}
		x := begun(t, decks[:]...)
		l := layOut(x)
		for range 300 {
			was, i := x, lot.IntN(10)
			who, up, low := uint8(lot.IntN(41)/20), lot.IntN(2) == 0, lot.IntN(2) == 0
			var e, want api.Errno
			if i == 0 {
				attack := lot.IntN(api.MaxNumber+4001) - 2000
				want = l.token(x, who, attack)
				x, _, e = board.Token(x, who, attack)
			} else {
				id, zone := lot.IntN(len(x.Pieces)+2)-1, uint8(lot.IntN(33)/4)
				if i < 4 {
					zone = api.Row
				}
				want = l.put(x, id, zone, who)
				x, e = board.Put(x, id, zone, who, up, low)
			}
			if e != want || e != api.OK && !board.Same(x, was) {
				t.Fatalf("%v, not %v, of %+v", e, want, was.Pieces)
			}
			counts[e]++
			l.held(t, x)
		}
	}
	for _, e := range []api.Errno{api.OK, api.ErrArg, api.ErrNone, api.ErrFull} {
		if counts[e] < 500 {
			t.Errorf("%v: %d times", e, counts[e])
		}
	}
}
