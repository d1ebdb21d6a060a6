package can_test

import (
	"testing"

	"joust/api"
	"joust/can"
)

// P12.1: a trigger may come of a piece in Row, Up; one upon destroy self of a piece in a grave, too.
func TestTriggerPlaces(t *testing.T) {
	for mode := range 256 {
		for ev := range uint8(api.EvEnd + 2) {
			for side := range uint8(api.Self + 2) {
				for zone := range uint8(api.Nowhere) {
					for _, up := range []bool{false, true} {
						if zone == api.Back {
							continue
						}
						open := zone == api.Row && up || zone == api.Grave && ev == api.EvDestroy && side == api.Self
						want := open && (mode == api.When || mode == api.If || mode == api.Must)
						x := alone(t, api.Unit, api.Effect{Mode: uint8(mode), Ev: ev, Side: side}, at(zone, up))
						if can.Trigger(x, 0, 0, 0) != want {
							t.Fatalf("mode %d upon %d of %d, zone %d, Up %v: not %v", mode, ev, side, zone, up, want)
						}
					}
				}
			}
		}
	}
}

// P12.1: who has the piece, not whose it is, nor whose turn it is.
func TestTriggerWhose(t *testing.T) {
	e := api.Effect{Mode: api.If, Ev: api.EvDestroy, Side: api.Self}
	for owner := range uint8(2) {
		for who := range uint8(2) {
			for player := range uint8(2) {
				for has := range uint8(2) {
					x := alone(t, api.Unit, e, api.Piece{Owner: owner, Has: has, Zone: api.Row, Up: true})
					x.Player = player
					if can.Trigger(x, who, 0, 0) != (who == has) {
						t.Errorf("the piece of %d that %d has: Trigger of %d", owner, has, who)
					}
				}
				x := alone(t, api.Unit, e, of(0, owner, at(api.Grave, true)))
				x.Player = player
				if can.Trigger(x, who, 0, 0) != (who == owner) {
					t.Errorf("the piece of %d, in a grave: Trigger of %d", owner, who)
				}
			}
		}
	}
}

// P12.1: a trigger must be afforded, in a grave, too.
func TestTriggerCosts(t *testing.T) {
	for _, p := range []api.Piece{at(api.Row, true), at(api.Grave, true)} {
		for i, c := range []struct {
			e    api.Effect
			want bool
		}{
			{api.Effect{}, true}, {api.Effect{Pay: 7999}, true}, {api.Effect{Pay: 8000}, false}, {api.Effect{Discard: 1}, false}, {api.Effect{Cond: []api.Expr{{}}}, false},
			{api.Effect{Pick: 1, Sel: api.Sel{Side: api.Theirs, Zone: api.Row}}, true}, {api.Effect{Pick: 2, Sel: api.Sel{Side: api.Theirs, Zone: api.Row}}, false},
		} {
			c.e.Mode, c.e.Ev, c.e.Side = api.When, api.EvDestroy, api.Self
			x := alone(t, api.Unit, c.e, p)
			x.Pieces = append(x.Pieces, of(0, 1, at(api.Row, false)))
			if can.Trigger(x, 0, 0, 0) != c.want {
				t.Errorf("%d: Trigger", i)
			}
			x.Pieces[0].Used = 1
			if can.Trigger(x, 0, 0, 0) {
				t.Errorf("%d: Trigger, used", i)
			}
			x.Pieces[0].Used = 254
			if can.Trigger(x, 0, 0, 0) != c.want {
				t.Errorf("%d: Trigger, others used", i)
			}
		}
	}
}

// P12.1: what comes by itself may not be activated, and what is activated doesn't come by itself.
func TestTriggersApart(t *testing.T) {
	for mode := range uint8(api.Aura + 1) {
		x := alone(t, api.Unit, api.Effect{Mode: mode}, at(api.Row, true))
		if can.Trigger(x, 0, 0, 0) && mays(t, x, 0, inMain) {
			t.Errorf("mode %d: both", mode)
		}
	}
}
