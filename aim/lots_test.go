package aim_test

import (
	"math/rand/v2"
	"slices"
	"testing"

	"joust/aim"
	"joust/api"
	"joust/eval"
)

// pickable is a second reading: may this piece be picked?
func pickable(x api.Table, who uint8, id int, e api.Effect, piece int) bool {
	return e.Pick > 0 && slices.Contains(eval.Count(x, who, id, e.Sel), piece) && (piece != id || e.Sel.Side == api.Self)
}

// targets is a second reading of Targets: the places of each are its first ones.
func targets(x api.Table, who uint8, id int, e api.Effect, picks []int) []int {
	var l []int
	for i, piece := range picks {
		if slices.Index(picks, piece) == i && pickable(x, who, id, e, piece) {
			l = append(l, piece)
		}
	}
	return l
}

// P9.1: all three, by lot, against the second reading.
func TestLots(t *testing.T) {
	x := spread(t)
	lot := rand.New(rand.NewPCG(9, 1))
	seen := map[string]int{}
	for range 40000 {
		who, id := uint8(lot.IntN(2)), lot.IntN(len(x.Pieces)+2)-1
		sel := api.Sel{Side: uint8(lot.IntN(5)), Zone: []uint8{api.Row, api.Row, api.Back, api.Grave, api.Hand}[lot.IntN(5)], Kind: uint8(lot.IntN(9)) / 4}
		e := api.Effect{Pick: lot.IntN(6) - 1, Sel: sel}
		picks := make([]int, max(0, e.Pick+lot.IntN(3)-1))
		cards := aim.Cards(x, who, id, e)
		for i := range picks {
			picks[i] = lot.IntN(len(x.Pieces)+2) - 1
			if len(cards) > 0 && lot.IntN(4) > 0 {
				picks[i] = cards[lot.IntN(len(cards))]
			}
		}
		for piece := -1; piece <= len(x.Pieces); piece++ {
			if want := pickable(x, who, id, e, piece); slices.Contains(cards, piece) != want {
				t.Fatalf("Cards(%d, %d, %+v) = %v", who, id, e, cards)
			}
		}
		want := targets(x, who, id, e, picks)
		if l := aim.Targets(x, who, id, e, api.Step{}, picks); !slices.Equal(l, want) {
			t.Fatalf("Targets(%d, %d, %+v, %v) = %v; not %v", who, id, e, picks, l, want)
		}
		may := len(picks) == max(0, e.Pick) && len(want) == len(picks)
		if aim.May(x, who, id, e, picks) != may {
			t.Fatalf("May(%d, %d, %+v, %v) = %v", who, id, e, picks, !may)
		}
		if may && len(picks) > 1 {
			seen["may"]++
		}
		if len(want) > 0 && len(want) < len(picks) {
			seen["less"]++
		}
		if slices.Contains(want, id) {
			seen["self"]++
		}
	}
	if seen["may"] < 200 || seen["less"] < 500 || seen["self"] < 50 {
		t.Errorf("%v", seen)
	}
}
