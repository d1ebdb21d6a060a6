package can_test

import (
	"testing"

	"joust/api"
	"joust/can"
)

// mays tells whether the first effect of the first piece may be activated by who; All must tell the same.
func mays(t *testing.T, x api.Table, who uint8, w api.Window) bool {
	t.Helper()
	may, listed := can.May(x, who, 0, 0, w), false
	for _, r := range can.All(x, who, w) {
		listed = listed || r == api.Ready{Who: who}
	}
	if listed != may {
		t.Errorf("May = %v, but All tells the other", may)
	}
	return may
}

// P12.1: where a play of each kind may be, Up or not, in an earlier turn or in this one, or later, in one's own turn and the other one's.
func TestPlaces(t *testing.T) {
	for kind := range uint8(other + 1) {
		for zone := range uint8(api.Nowhere) {
			if kind == api.Unit && zone == api.Back || kind != api.Unit && (zone == api.Row || zone == api.Limbo) {
				continue
			}
			for _, up := range []bool{false, true} {
				for _, turn := range []int{-5, 0, 2, 3, 4} {
					for player := range uint8(2) {
						laid := zone == api.Back && !up
						want := false
						switch kind {
						case api.Spell:
							want = (zone == api.Hand || laid) && player == 0
						case api.Quick:
							want = zone == api.Hand && player == 0 || laid && turn < 3
						case api.Trap, api.Counter, other:
							want = laid && turn < 3
						}
						x := alone(t, kind, api.Effect{}, since(turn, at(zone, up)))
						x.Player = player
						if mays(t, x, 0, inMain) != want {
							t.Errorf("kind %d, zone %d, Up %v, since %d, the turn of %d: not %v", kind, zone, up, turn, player, want)
						}
					}
				}
			}
		}
	}
}

// P12.1: acts and swifts are of pieces in Row, Up, alone, since whichever turn.
func TestPlacesOfUnits(t *testing.T) {
	for _, mode := range []uint8{api.Act, api.Swift} {
		for kind := range uint8(other + 1) {
			for zone := range uint8(api.Nowhere) {
				if kind == api.Unit && zone == api.Back || kind != api.Unit && (zone == api.Row || zone == api.Limbo) {
					continue
				}
				for _, up := range []bool{false, true} {
					for _, turn := range []int{0, 3, 9} {
						x := alone(t, kind, api.Effect{Mode: mode}, since(turn, at(zone, up)))
						if mays(t, x, 0, inMain) != (zone == api.Row && up) {
							t.Errorf("mode %d, kind %d, zone %d, Up %v, since %d", mode, kind, zone, up, turn)
						}
					}
				}
			}
		}
	}
}

// P12.1: what lies is nothing to acts and swifts: a guard that struck and was turned may act.
func TestGuards(t *testing.T) {
	p := at(api.Row, true)
	p.Low, p.Struck, p.Turned, p.Boost = true, true, true, 300
	if !mays(t, alone(t, api.Unit, swift(), p), 0, open) {
		t.Error("May")
	}
}

// P12.1: plays, acts, swifts alone may be activated, wherever the piece is.
func TestModes(t *testing.T) {
	for mode := range 256 {
		for kind := range uint8(other + 1) {
			p := at(api.Row, true)
			if kind != api.Unit {
				p = at(api.Back, false)
			}
			x := alone(t, kind, api.Effect{Mode: uint8(mode)}, p)
			want := mode == api.Play && kind != api.Unit || (mode == api.Act || mode == api.Swift) && kind == api.Unit
			if mays(t, x, 0, inMain) != want {
				t.Errorf("kind %d, mode %d: not %v", kind, mode, want)
			}
		}
	}
}

// P12.1: who has the piece activates it, whoever's it is.
func TestWhose(t *testing.T) {
	for owner := range uint8(2) {
		for has := range uint8(2) {
			unit := api.Piece{Owner: owner, Has: has, Zone: api.Row, Up: true}
			trap := api.Piece{Owner: owner, Has: has, Zone: api.Back}
			for who := range uint8(2) {
				if mays(t, alone(t, api.Unit, swift(), unit), who, open) != (who == has) || mays(t, alone(t, api.Trap, api.Effect{}, trap), who, open) != (who == has) {
					t.Errorf("the piece of %d that %d has, by %d", owner, has, who)
				}
			}
		}
	}
}

// P12.1: from the hand a place of one's own Back must be free, for what lies there none.
func TestRoom(t *testing.T) {
	for _, kind := range []uint8{api.Spell, api.Quick} {
		for own := range api.Slots + 1 {
			for theirs := range api.Slots + 1 {
				l := []api.Piece{at(api.Hand, false)}
				for i := range own {
					l = append(l, placed(api.Slots-1-i, at(api.Back, true)))
				}
				for i := range theirs {
					l = append(l, of(0, 1, placed(i, at(api.Back, false))))
				}
				x := table(t, []api.Card{card(kind, api.Effect{})}, l...)
				if mays(t, x, 0, inMain) != (own < api.Slots) {
					t.Errorf("kind %d, %d and %d in Back", kind, own, theirs)
				}
				if own == 0 {
					continue
				}
				x.Pieces[1].Up = false
				if !can.May(x, 0, 1, 0, inMain) {
					t.Errorf("kind %d, %d in Back: one of these", kind, own)
				}
			}
		}
	}
}
