package can_test

import (
	"slices"
	"testing"

	"joust/api"
)

// speeds are effects, with the pieces that have them, by their speeds, from 1 on, of players' own turns and of others'.
func speeds(t *testing.T, player uint8) [3][]api.Table {
	t.Helper()
	l := [3][]api.Table{
		{alone(t, api.Spell, api.Effect{}, at(api.Back, false)), alone(t, api.Unit, api.Effect{Mode: api.Act}, at(api.Row, true))},
		{alone(t, api.Quick, api.Effect{}, at(api.Back, false)), alone(t, api.Trap, api.Effect{}, at(api.Back, false)), alone(t, api.Unit, swift(), at(api.Row, true))},
		{alone(t, api.Counter, api.Effect{}, at(api.Back, false)), alone(t, other, api.Effect{}, at(api.Back, false))},
	}
	for _, of := range l {
		for i := range of {
			of[i].Player = player
		}
	}
	return l
}

// P12.1: speed 1 in a main phase, without links, in one's own turn alone; other speeds at any time, upon a link of no greater speed, but not while a unit is being summoned and there are no links.
func TestTimes(t *testing.T) {
	for player := range uint8(2) {
		for i, l := range speeds(t, player) {
			speed := uint8(i + 1)
			for _, x := range l {
				for _, main := range []bool{false, true} {
					if mays(t, x, 0, api.Window{Main: main}) != (speed > 1 || main && player == 0) {
						t.Errorf("speed %d, Main %v, the turn of %d", speed, main, player)
					}
					for _, trying := range []bool{false, true} {
						for last := range uint8(5) {
							w := api.Window{Main: main, Trying: trying, Links: []api.Link{{Who: 1, Speed: last}}}
							if mays(t, x, 0, w) != (speed > 1 && speed >= last) {
								t.Errorf("speed %d upon %d, Main %v, Trying %v, the turn of %d", speed, last, main, trying, player)
							}
						}
					}
				}
				if mays(t, x, 0, api.Window{Trying: true}) {
					t.Errorf("speed %d, Trying", speed)
				}
			}
		}
	}
}

// P12.1: the last link counts, not those ahead of it, whether it was negated or not.
func TestLastLink(t *testing.T) {
	x := alone(t, api.Trap, api.Effect{}, at(api.Back, false))
	for i, c := range []struct {
		speeds []uint8
		want   bool
	}{{[]uint8{3, 2}, true}, {[]uint8{2, 3}, false}, {[]uint8{1, 3, 3, 1}, true}, {[]uint8{1, 1, 255}, false}} {
		for _, dead := range []bool{false, true} {
			var w api.Window
			for _, speed := range c.speeds {
				w.Links = append(w.Links, api.Link{Speed: speed, Dead: dead})
			}
			if mays(t, x, 0, w) != c.want {
				t.Errorf("%d: May, Dead %v", i, dead)
			}
		}
	}
}

// P12.1: while a unit is being summoned, without links, a play upon try alone may be activated.
func TestTrying(t *testing.T) {
	var recent []api.Event
	for ev := range uint8(api.EvEnd + 1) {
		recent = append(recent, api.Event{Ev: ev, Who: 1, Moment: 7})
	}
	w := api.Window{Trying: true, Recent: recent}
	for ev := range uint8(api.EvEnd + 1) {
		for _, kind := range []uint8{api.Quick, api.Trap, api.Counter, other} {
			x := alone(t, kind, api.Effect{Ev: ev, Side: api.Theirs}, at(api.Back, false))
			if mays(t, x, 0, w) != (ev == api.EvTry) {
				t.Errorf("kind %d upon %d", kind, ev)
			}
		}
		x := alone(t, api.Unit, api.Effect{Mode: api.Swift, Ev: ev, Side: api.Theirs}, at(api.Row, true))
		if mays(t, x, 0, w) {
			t.Errorf("a swift upon %d", ev)
		}
	}
	x := alone(t, api.Counter, api.Effect{Ev: api.EvTry, Side: api.Theirs}, at(api.Back, false))
	if mays(t, x, 0, api.Window{Trying: true}) {
		t.Error("upon try, and nobody tried")
	}
	if !mays(t, x, 0, api.Window{Recent: recent}) {
		t.Error("upon try, behind that")
	}
}

// P12.1: a play is upon an event of Recent that fits, whichever one, of whichever moment.
func TestUpon(t *testing.T) {
	fits := api.Event{Ev: api.EvAttack, Who: 1, Piece: 5, Moment: 2}
	mine, else1 := fits, fits
	mine.Who, else1.Ev = 0, api.EvDamage
	for i, c := range []struct {
		side   uint8
		recent []api.Event
		want   bool
	}{
		{api.Theirs, nil, false}, {api.Any, nil, false},
		{api.Theirs, []api.Event{fits}, true}, {api.Theirs, []api.Event{mine}, false}, {api.Theirs, []api.Event{else1}, false},
		{api.Theirs, []api.Event{mine, else1, fits}, true}, {api.Theirs, []api.Event{fits, mine, else1}, true}, {api.Theirs, []api.Event{mine, else1, mine}, false},
		{api.Mine, []api.Event{fits}, false}, {api.Mine, []api.Event{fits, mine}, true}, {api.Any, []api.Event{mine}, true}, {api.Any, []api.Event{fits}, true}, {api.Any, []api.Event{else1}, false},
		{api.Self, []api.Event{fits}, false}, {api.Self, []api.Event{fits, {Ev: api.EvAttack, Who: 1}}, true}, {api.Self + 1, []api.Event{fits, mine}, false},
	} {
		for _, kind := range []uint8{api.Quick, api.Trap, api.Counter, other} {
			x := alone(t, kind, api.Effect{Ev: api.EvAttack, Side: c.side}, at(api.Back, false))
			x.Events = []api.Event{fits, mine}
			if mays(t, x, 0, api.Window{Recent: c.recent}) != c.want {
				t.Errorf("%d: May, of the kind %d", i, kind)
			}
		}
		x := alone(t, api.Spell, api.Effect{Ev: api.EvAttack, Side: c.side}, at(api.Hand, false))
		if mays(t, x, 0, api.Window{Main: true, Recent: c.recent}) != c.want {
			t.Errorf("%d: May, of a spell", i)
		}
	}
}

// P12.1: what happened is told for the one who activates, and for the piece.
func TestUponForWhom(t *testing.T) {
	x := alone(t, api.Trap, api.Effect{Ev: api.EvAttack, Side: api.Mine}, of(0, 1, at(api.Back, false)))
	for who := range uint8(2) {
		if mays(t, x, 1, api.Window{Recent: []api.Event{{Ev: api.EvAttack, Who: who}}}) != (who == 1) {
			t.Errorf("upon an attack of %d", who)
		}
	}
	own := table(t, []api.Card{card(api.Trap), card(api.Trap, api.Effect{Ev: api.EvAttack, Side: api.Self})}, at(api.Back, false), of(1, 0, placed(1, at(api.Back, false))))
	own.Pieces[0], own.Pieces[1] = own.Pieces[1], own.Pieces[0]
	for piece := -1; piece < 2; piece++ {
		if mays(t, own, 0, api.Window{Recent: []api.Event{{Ev: api.EvAttack, Piece: piece}}}) != (piece == 0) {
			t.Errorf("upon an attack of the piece %d", piece)
		}
	}
}

// P12.1: a play upon link is upon the last link, not upon what happened.
func TestUponLink(t *testing.T) {
	links := func(l ...uint8) []api.Link {
		var all []api.Link
		for _, who := range l {
			all = append(all, api.Link{Who: who, Speed: 2})
		}
		return all
	}
	for i, c := range []struct {
		side  uint8
		links []api.Link
		want  bool
	}{
		{api.Theirs, nil, false}, {api.Any, nil, false}, {api.Theirs, links(1), true}, {api.Theirs, links(0), false}, {api.Theirs, links(1, 0), false}, {api.Theirs, links(0, 1), true},
		{api.Mine, links(0), true}, {api.Mine, links(0, 1), false}, {api.Any, links(0), true}, {api.Any, links(1), true}, {api.Self, links(0), false}, {api.Self, links(1), false}, {api.Self + 1, links(1), false},
	} {
		x := alone(t, api.Counter, api.Effect{Ev: api.EvLink, Side: c.side}, at(api.Back, false))
		for _, recent := range [][]api.Event{nil, {{Ev: api.EvLink, Who: 0}, {Ev: api.EvLink, Who: 1}}} {
			if mays(t, x, 0, api.Window{Links: c.links, Recent: recent}) != c.want {
				t.Errorf("%d: May", i)
			}
		}
	}
}

// P12.1: a play upon nothing, an act and a swift upon whatever, are activated at any event, and without one.
func TestUponNothing(t *testing.T) {
	for _, recent := range [][]api.Event{nil, {{}}, {{Ev: api.EvAttack, Who: 1}}} {
		w := api.Window{Main: true, Recent: recent}
		for _, side := range []uint8{api.Mine, api.Theirs, api.Any, api.Self, 9} {
			for _, kind := range []uint8{api.Spell, api.Quick, api.Trap, api.Counter, other} {
				if !mays(t, alone(t, kind, api.Effect{Side: side}, at(api.Back, false)), 0, w) {
					t.Errorf("a play of the kind %d, of %d", kind, side)
				}
			}
			for _, mode := range []uint8{api.Act, api.Swift} {
				for ev := range uint8(api.EvEnd + 2) {
					if !mays(t, alone(t, api.Unit, api.Effect{Mode: mode, Ev: ev, Side: side}, at(api.Row, true)), 0, w) {
						t.Errorf("mode %d upon %d of %d", mode, ev, side)
					}
				}
			}
		}
	}
}

// What was handed in stays as it is, the room behind its end, too.
func TestStays(t *testing.T) {
	e := api.Effect{Mode: api.Swift, Cond: []api.Expr{{N: 1}}, Discard: 1, Pick: 1, Sel: api.Sel{Side: api.Any, Zone: api.Row}}
	l := []api.Piece{placed(1, at(api.Row, true)), at(api.Row, true), at(api.Hand, false), at(api.Hand, false)}
	x := table(t, []api.Card{card(api.Unit, e, api.Effect{Mode: api.Must})}, l[:3]...)
	recent := []api.Event{{Ev: api.EvAttack}, {Ev: api.EvSummon}, {Ev: api.EvEnd}}
	links := []api.Link{{Speed: 1}, {Speed: 2, Picks: []int{4}}, {Speed: 3}}
	pieces, kinds, happened := slices.Clone(l), slices.Clone(x.Kinds[0].Effects), slices.Clone(recent)
	w := api.Window{Recent: recent[:2], Links: links[:2]}
	first, second := all(t, x, w), all(t, x, w)
	first[0] = api.Ready{Piece: 99}
	if second[0] == first[0] {
		t.Error("two answers share memory")
	}
	if !slices.Equal(l, pieces) || !slices.Equal(recent, happened) || links[0].Speed != 1 || links[1].Speed != 2 || links[2].Speed != 3 || links[1].Picks[0] != 4 {
		t.Error("what was handed in changed")
	}
	for i, e := range x.Kinds[0].Effects {
		if e.Mode != kinds[i].Mode || e.Pick != kinds[i].Pick || len(e.Cond) != len(kinds[i].Cond) {
			t.Error("the kinds changed")
		}
	}
}
