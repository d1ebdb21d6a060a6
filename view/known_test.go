package view_test

import (
	"math"
	"testing"

	"joust/api"
	"joust/view"
)

// isKnown is a second reading of what is known to a player.
func isKnown(p api.Piece, who uint8) bool {
	own := p.Has == who
	if p.Def == -1 {
		return true
	}
	switch p.Zone {
	case api.Hand:
		return own
	case api.Row, api.Back:
		return own || p.Up
	case api.Grave, api.Exile, api.Limbo:
		return p.Up
	}
	return false
}

// P18.1: Known, of pieces of all zones, that there are not, too; of tokens; on tables that may not be, too.
func TestKnown(t *testing.T) {
	x := api.Table{Pieces: make([]api.Piece, 3)}
	for zone := range 256 {
		for i := range 64 {
			p := api.Piece{Def: []int{-1, 0, -2, 5}[i&3], Zone: uint8(zone), Has: uint8(i >> 2 & 1), Owner: uint8(i >> 3 & 1), Up: i>>4&1 == 1, Low: i>>5 == 1, Struck: true}
			x.Pieces[1] = p
			for who := range uint8(2) {
				if is := view.Known(x, 1, who); is != isKnown(p, who) {
					t.Fatalf("Known of %+v to %d: %v", p, who, is)
				}
			}
		}
	}
}

// P18.1: no player knows what there is not, and no one who is no player knows anything.
func TestKnownOfNothing(t *testing.T) {
	x := laid(t).Table
	n := len(x.Pieces)
	for _, id := range []int{math.MinInt, -1, n, n + 1, math.MaxInt} {
		for who := range 256 {
			if view.Known(x, id, uint8(who)) || view.Known(api.Table{}, id, uint8(who)) {
				t.Errorf("Known(%d, %d)", id, who)
			}
		}
	}
	for id := range x.Pieces {
		for who := 2; who < 256; who++ {
			x.Pieces[id].Has = uint8(who)
			if view.Known(x, id, uint8(who)) {
				t.Errorf("Known(%d, %d)", id, who)
			}
		}
	}
}
