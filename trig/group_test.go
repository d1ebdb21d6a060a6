package trig_test

import (
	"math"
	"slices"
	"testing"

	"joust/api"
	"joust/trig"
)

// each is one trigger of each group of 0's turn, in their order.
func each() []api.Ready {
	return []api.Ready{{Who: 0, Piece: 4, Must: true}, {Who: 1, Piece: 3, Must: true}, {Who: 0, Piece: 2}, {Who: 1, Piece: 1}}
}

// P13.1: those of the first group that has one, whichever groups there are, and in whatever order they stand.
func TestFirstGroup(t *testing.T) {
	for player := range uint8(2) {
		for has := range 1 << 4 {
			var l []api.Ready
			var want []api.Ready
			for i, r := range each() {
				if has>>i&1 == 0 {
					continue
				}
				r.Who ^= player
				l = append(l, r, r)
				if want == nil {
					want = []api.Ready{r, r}
				}
			}
			for range max(1, len(l)) {
				if g := trig.Group(api.Table{Player: player}, l); !slices.Equal(g, want) {
					t.Errorf("Group of %v = %v; not %v", l, g, want)
				}
				if len(l) > 0 {
					l = append(l[1:], l[0])
				}
			}
		}
	}
}

// P13.1: they come as they stand: neither put in order nor told once.
func TestGroupAsItStands(t *testing.T) {
	want := []api.Ready{{Piece: 5, Effect: 3}, {Piece: 2, Effect: 2}, {Piece: 5, Effect: 1}, {Piece: 2, Effect: 2}, {Piece: 0, Effect: -1}, {Piece: -7}}
	var l []api.Ready
	for i, r := range want {
		l = append(l, api.Ready{Who: 1, Piece: i}, r)
	}
	if g := trig.Group(many(t), l); !slices.Equal(g, want) {
		t.Errorf("Group = %v", g)
	}
}

// P13.1: who is no player counts as the other one, also where it is the turn of nobody.
func TestGroupOfNobody(t *testing.T) {
	for player := range uint8(4) {
		for who := 2; who < 256; who++ {
			for _, must := range []bool{false, true} {
				none := api.Ready{Who: uint8(who), Piece: 1, Must: must}
				first, other := api.Ready{Who: player, Piece: 2, Must: must}, api.Ready{Who: 1 - player, Piece: 3, Must: must}
				l := []api.Ready{none, first, other, none}
				want := []api.Ready{first}
				if player > 1 {
					want = l
				}
				if g := trig.Group(api.Table{Player: player}, l); !slices.Equal(g, want) {
					t.Fatalf("of %d: Group of %v = %v", player, l, g)
				}
				l = []api.Ready{none, other}
				if g := trig.Group(api.Table{Player: player}, l); !slices.Equal(g, l) {
					t.Fatalf("of %d: Group of %v = %v", player, l, g)
				}
			}
		}
	}
}

// P13.1: what is told counts, not what lies on the table; nor need that be one that may be.
func TestGroupAsTold(t *testing.T) {
	x := many(t)
	x.Pieces[0].Zone = api.Exile
	l := []api.Ready{{Who: 0, Piece: 0, Must: true}, {Who: 0, Piece: math.MaxInt, Effect: math.MinInt, Must: true}, {Who: 0, Piece: 3, Effect: 1}}
	tables := []api.Table{x, {}}
	for _, spoil := range wrong() {
		y := many(t)
		spoil(&y)
		if y.Player == 0 {
			tables = append(tables, y)
		}
	}
	for i, y := range tables {
		if g := trig.Group(y, l); !slices.Equal(g, l[:2]) {
			t.Errorf("%d: Group = %v", i, g)
		}
		if g := trig.Group(y, l[2:]); !slices.Equal(g, l[2:]) {
			t.Errorf("%d: Group = %v", i, g)
		}
		if trig.Group(y, nil) != nil || trig.Group(y, []api.Ready{}) != nil {
			t.Errorf("%d: Group of none", i)
		}
	}
}
