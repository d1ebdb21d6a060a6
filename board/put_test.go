package board_test

import (
	"math"
	"reflect"
	"slices"
	"testing"

	"joust/api"
	"joust/board"
)

var bools = []bool{false, true}

// P6.2: what a piece is where it was put: with whom, at which place, Up, Low; nothing is left of what it did.
func TestPutAnywhere(t *testing.T) {
	for _, who := range []uint8{0, 1} {
		for _, owner := range []uint8{0, 1} {
			for _, up := range bools {
				for _, low := range bools {
					x := begun(t, []int{ogre, ogre, net}, []int{ogre, ogre, net})
					x.Turn = 9
					unit, trap := int(owner)*3, int(owner)*3+2
					for _, id := range []int{unit, trap} {
						p := &x.Pieces[id]
						p.Up, p.Low, p.Since, p.Used, p.Struck, p.Turned, p.Boost = true, true, 4, 3, true, true, -7
					}
					is := api.Piece{Attack: 1800, Guard: 900, Owner: owner, Has: owner, Since: 9}
					wantPut := func(id int, zone uint8, want api.Piece) {
						t.Helper()
						want.Zone = zone
						wantPiece(t, put(t, x, id, zone, who, up, low), id, want)
					}
					is.At = 2
					wantPut(unit, api.Deck, is)
					is.At = 0
					wantPut(unit, api.Hand, is)
					is.Up = true
					wantPut(unit, api.Grave, is)
					wantPut(unit, api.Exile, is)
					is.Has, is.Up = who, up
					wantPut(unit, api.Limbo, is)
					is.Low = low
					wantPut(unit, api.Row, is)
					wantPut(trap, api.Back, api.Piece{Def: net, Guard: 6, Owner: owner, Has: who, Up: up, Since: 9})
				}
			}
		}
	}
}

// P6.2: of a deck, hand, grave, exile those behind come up; of a row, of the other player, of other zones none does.
func TestPutLeaves(t *testing.T) {
	for _, zone := range []uint8{api.Deck, api.Hand, api.Grave, api.Exile} {
		for _, goal := range []uint8{api.Row, api.Hand, api.Grave, api.Deck, api.Exile, api.Limbo} {
			for at := range 4 {
				x := begun(t, []int{ogre, ogre, ogre, ogre}, []int{ogre, ogre, ogre, ogre, ogre})
				for id := range 8 {
					x = put(t, x, id, zone, 0, false, false)
				}
				others := board.In(x, 1, zone)
				x = put(t, x, at, goal, 0, true, false)
				ids := slices.Delete([]int{0, 1, 2, 3}, at, at+1)
				if goal == zone {
					ids = append(ids, at)
				}
				wantIn(t, x, 0, zone, ids...)
				wantIn(t, x, 1, zone, others...)
				for place, id := range ids {
					if x.Pieces[id].At != place {
						t.Errorf("%d to %d: the place of %d is %d", zone, goal, id, x.Pieces[id].At)
					}
				}
			}
		}
	}
	x := begun(t, []int{ogre, ogre, ogre, net, net, net}, nil)
	for id, zone := range []uint8{api.Row, api.Row, api.Row, api.Back, api.Back, api.Back} {
		x = put(t, x, id, zone, 1, true, false)
	}
	x = put(t, put(t, x, 1, api.Limbo, 0, true, false), 4, api.Hand, 0, true, false)
	x = put(t, put(t, x, 0, api.Grave, 0, true, false), 3, api.Exile, 0, true, false)
	if x.Pieces[2].At != 2 || x.Pieces[5].At != 2 {
		t.Errorf("they came up: %+v", x.Pieces)
	}
	wantFree(t, x, 1, api.Row, 0)
	wantFree(t, x, 1, api.Back, 0)
}

// P6.2: pieces go to the first free place; their own place is not free.
func TestPutPlaces(t *testing.T) {
	x := begun(t, slices.Repeat([]int{ogre}, api.Slots+1), slices.Repeat([]int{net}, api.Slots+1))
	first := api.Slots + 1 // the first trap
	x = put(t, put(t, x, 0, api.Row, 1, true, false), first, api.Back, 0, true, false)
	for id, zone := range map[int]uint8{0: api.Row, first: api.Back} {
		has := x.Pieces[id].Has
		for _, at := range []int{1, 0, 1} {
			x = put(t, x, id, zone, has, true, false)
			if x.Pieces[id].At != at {
				t.Errorf("the place of %d is %d, not %d", id, x.Pieces[id].At, at)
			}
		}
	}
	for i := 1; i < api.Slots; i++ {
		x = put(t, put(t, x, i, api.Row, 1, true, true), first+i, api.Back, 0, true, false)
	}
	wantIn(t, x, 1, api.Row, 1, 0, 2, 3, 4)
	wantIn(t, x, 0, api.Back, first+1, first, first+2, first+3, first+4)
	for i := range api.Slots + 1 {
		refused(t, x, i, api.Row, 1, api.ErrFull)
		refused(t, x, first+i, api.Back, 0, api.ErrFull)
		refused(t, x, i, api.Back, 0, api.ErrArg)
		refused(t, x, first+i, api.Row, 1, api.ErrArg)
		put(t, x, i, api.Row, 0, true, false)
		put(t, x, first+i, api.Back, 1, true, false)
		put(t, x, i, api.Limbo, 1, true, false)
	}
	x = put(t, put(t, x, 3, api.Row, 0, true, false), first+2, api.Hand, 0, true, false)
	x = put(t, put(t, x, 5, api.Row, 1, true, false), first+5, api.Back, 0, true, false)
	wantIn(t, x, 1, api.Row, 1, 0, 2, 5, 4)
	wantIn(t, x, 0, api.Back, first+1, first, first+5, first+3, first+4)
}

// P6.2: Limbo has room for one, whoever has it; the one in it may be put there again.
func TestPutLimbo(t *testing.T) {
	x := begun(t, []int{ogre, ogre, rain}, []int{ogre, net})
	x = token(t, x, 0, 5)
	for _, has := range []uint8{0, 1} {
		y := put(t, x, 3, api.Limbo, has, true, false)
		wantIn(t, y, has, api.Limbo, 3)
		for _, who := range []uint8{0, 1} {
			refused(t, y, 0, api.Limbo, who, api.ErrFull)
			refused(t, y, 2, api.Limbo, who, api.ErrArg)
			refused(t, y, 4, api.Limbo, who, api.ErrArg)
			z := put(t, y, 3, api.Limbo, who, false, true)
			wantPiece(t, z, 3, api.Piece{Attack: 1800, Guard: 900, Owner: 1, Has: who, Zone: api.Limbo, Since: 1})
			z = put(t, y, 5, api.Limbo, who, true, true)
			wantIn(t, z, 0, api.Nowhere, 5)
		}
		y = put(t, y, 3, api.Grave, has, true, false)
		put(t, y, 1, api.Limbo, 1-has, true, false)
	}
}

// P6.2: a token that is put anywhere but in Row is Nowhere, though there is no room; it can't be put from there.
func TestPutTokens(t *testing.T) {
	x := begun(t, append(slices.Repeat([]int{ogre}, api.Slots+1), slices.Repeat([]int{net}, api.Slots)...), []int{ogre})
	for i := range api.Slots {
		x = put(t, put(t, x, i, api.Row, 0, true, false), api.Slots+1+i, api.Back, 0, true, false)
	}
	x = put(t, token(t, x, 1, 300), 5, api.Limbo, 0, true, false)
	id := len(x.Pieces) - 1
	refused(t, x, id, api.Row, 0, api.ErrFull)
	x.Turn = 7
	x.Pieces[id].Boost, x.Pieces[id].Used, x.Pieces[id].Struck, x.Pieces[id].Low = 40, 1, true, true
	is := api.Piece{Def: -1, Attack: 300, Owner: 1, Has: 1, Zone: api.Row, At: 1, Up: true, Since: 7}
	wantPiece(t, put(t, x, id, api.Row, 1, true, false), id, is)
	is.Zone, is.At, is.Up = api.Nowhere, 0, false
	for _, zone := range []uint8{api.Deck, api.Hand, api.Back, api.Grave, api.Exile, api.Limbo} {
		for _, who := range []uint8{0, 1} {
			y := put(t, x, id, zone, who, true, true)
			wantPiece(t, y, id, is)
			for _, next := range []uint8{api.Deck, api.Row, api.Back, api.Grave, api.Limbo} {
				refused(t, y, id, next, who, api.ErrNone)
			}
			refused(t, y, id, api.Nowhere, who, api.ErrArg)
			refused(t, y, id, api.Row, 2, api.ErrArg)
		}
	}
	x = put(t, x, 2, api.Hand, 0, true, false)
	x = put(t, x, id, api.Row, 0, false, true)
	wantPiece(t, x, id, api.Piece{Def: -1, Attack: 300, Owner: 1, Zone: api.Row, At: 2, Low: true, Since: 7})
	wantPiece(t, put(t, x, id, api.Hand, 0, true, true), id, is)
}

// P6.2: of each kind of card, where it may be put.
func TestPutKinds(t *testing.T) {
	x := begun(t, []int{ogre, rain, wind, net, stop, odd}, nil)
	for id := range x.Pieces {
		for zone := range uint8(api.Nowhere) {
			ok := id == 0 && zone != api.Back || id != 0 && zone != api.Row && zone != api.Limbo
			for _, who := range []uint8{0, 1} {
				if !ok {
					refused(t, x, id, zone, who, api.ErrArg)
				} else if y := put(t, x, id, zone, who, true, false); y.Pieces[id].Zone != zone {
					t.Errorf("Put(%d, %d) = %+v", id, zone, y.Pieces[id])
				}
			}
		}
	}
}

// P6.2: what may not be is named in order.
func TestPutRefuses(t *testing.T) {
	x := begun(t, []int{ogre, net}, []int{ogre})
	wrong := board.Copy(x)
	wrong.Life[0] = -1
	for who := range 256 {
		for zone := range 256 {
			want := api.ErrNone
			if who > 1 || zone >= api.Nowhere {
				want = api.ErrArg
				refused(t, x, 0, uint8(zone), uint8(who), want)
			}
			refused(t, x, 3, uint8(zone), uint8(who), want)
			refused(t, wrong, 0, uint8(zone), uint8(who), api.ErrArg)
		}
	}
	for _, id := range []int{-1, 3, 4, math.MinInt, math.MaxInt} {
		refused(t, x, id, api.Row, 0, api.ErrNone)
		refused(t, x, id, api.Grave, 1, api.ErrNone)
		refused(t, wrong, id, api.Row, 0, api.ErrArg)
	}
	refused(t, api.Table{}, 0, api.Deck, 0, api.ErrArg)
	refused(t, api.Table{Turn: 1}, 0, api.Deck, 0, api.ErrNone)
	many := laid(t)
	many.Pieces = append(many.Pieces, make([]api.Piece, 1000)...)
	refused(t, many, 0, api.Deck, 0, api.ErrArg)
}

func refusedToken(t *testing.T, x api.Table, who uint8, attack int, want api.Errno) {
	t.Helper()
	if y, id, e := board.Token(x, who, attack); id != 0 || e != want || !board.Same(x, y) || !reflect.DeepEqual(x.Pieces, y.Pieces) {
		t.Errorf("Token(%d, %d) = %v, %d, %v; not %v", who, attack, y, id, e, want)
	}
}

// P6.2: a token, field by field, at the first free place.
func TestToken(t *testing.T) {
	x := begun(t, []int{ogre, ogre, ogre}, []int{net})
	for id := range 3 {
		x = put(t, x, id, api.Row, 1, true, false)
	}
	x = put(t, x, 1, api.Hand, 0, true, false)
	x.Turn = 6
	x = token(t, token(t, token(t, x, 1, 0), 0, api.MaxNumber), 1, 44)
	wantPiece(t, x, 4, api.Piece{Def: -1, Owner: 1, Has: 1, Zone: api.Row, At: 1, Up: true, Since: 6})
	wantPiece(t, x, 5, api.Piece{Def: -1, Attack: api.MaxNumber, Zone: api.Row, Up: true, Since: 6})
	wantPiece(t, x, 6, api.Piece{Def: -1, Attack: 44, Owner: 1, Has: 1, Zone: api.Row, At: 3, Up: true, Since: 6})
	wantIn(t, x, 1, api.Row, 0, 4, 2, 6)
}

// P6.2: what Token refuses, in order.
func TestTokenRefuses(t *testing.T) {
	x := begun(t, nil, nil)
	for range api.Slots {
		refusedToken(t, x, 2, 5, api.ErrArg)
		x = token(t, x, 1, 5)
	}
	refusedToken(t, x, 1, 5, api.ErrFull)
	token(t, x, 0, 5)
	wrong := board.Copy(x)
	wrong.Turn = 0
	for _, attack := range []int{-1, api.MaxNumber + 1, math.MinInt, math.MaxInt} {
		refusedToken(t, x, 0, attack, api.ErrArg)
		refusedToken(t, x, 1, attack, api.ErrArg)
		refusedToken(t, x, 2, attack, api.ErrArg)
	}
	for who := range 256 {
		refusedToken(t, wrong, uint8(who), 5, api.ErrArg)
		if who > 1 {
			refusedToken(t, x, uint8(who), 5, api.ErrArg)
		}
	}
	x = begun(t, nil, nil)
	for id := range api.MaxCards {
		x = put(t, token(t, x, 0, 5), id, api.Grave, 0, true, false)
	}
	refusedToken(t, x, 0, 5, api.ErrFull)
	refusedToken(t, x, 0, -1, api.ErrArg)
	x.Pieces = append(x.Pieces, api.Piece{Def: -1, Zone: api.Nowhere})
	refusedToken(t, x, 0, 5, api.ErrArg)
}
