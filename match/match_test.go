package match_test

import (
	"math"
	"slices"
	"testing"

	"joust/api"
	"joust/match"
)

// lately is a summon of the piece 3 by 0 at 5, and damage to 1 at 6, which is the last moment of table.
func lately() []api.Event {
	return []api.Event{{Ev: api.EvSummon, Moment: 5, Piece: 3, Who: 0}, {Ev: api.EvDamage, Moment: 6, Piece: -1, Who: 1}}
}

func table() api.Table { return api.Table{Turn: 1, Moment: 6} }

func upon(mode, ev, side uint8) api.Effect { return api.Effect{Mode: mode, Ev: ev, Side: side} }

// P11.1: the chapter's example.
func TestExample(t *testing.T) {
	for i, c := range []struct {
		who  uint8
		e    api.Effect
		want bool
	}{
		{0, upon(api.When, api.EvSummon, api.Self), false},
		{0, upon(api.If, api.EvSummon, api.Mine), true},
		{1, upon(api.When, api.EvDamage, api.Mine), true},
		{1, upon(api.Must, api.EvSummon, api.Mine), false},
	} {
		if match.Off(table(), c.who, 3, c.e, lately()) != c.want {
			t.Errorf("%d: Off", i)
		}
	}
}

// P11.1: each side asks for its own: the Piece, or the Who.
func TestFits(t *testing.T) {
	for i, c := range []struct {
		who, side uint8
		id        int
		x         api.Event
		want      bool
	}{
		{0, api.Mine, 3, api.Event{Piece: 3, Who: 0}, true}, {0, api.Mine, 3, api.Event{Piece: 4, Who: 0}, true}, {0, api.Mine, 3, api.Event{Piece: 3, Who: 1}, false},
		{1, api.Mine, 3, api.Event{Piece: -1, Who: 1}, true}, {1, api.Mine, 3, api.Event{Piece: 3, Who: 0}, false},
		{0, api.Theirs, 3, api.Event{Piece: 3, Who: 1}, true}, {0, api.Theirs, 3, api.Event{Piece: 4, Who: 1}, true}, {0, api.Theirs, 3, api.Event{Piece: 4, Who: 0}, false},
		{1, api.Theirs, 3, api.Event{Piece: -1, Who: 0}, true}, {1, api.Theirs, 3, api.Event{Piece: -1, Who: 1}, false},
		{0, api.Any, 3, api.Event{Piece: 4, Who: 0}, true}, {0, api.Any, 3, api.Event{Piece: 4, Who: 1}, true}, {1, api.Any, 3, api.Event{Piece: -1, Who: 0}, true}, {1, api.Any, 3, api.Event{Piece: -1, Who: 1}, true},
		{0, api.Self, 3, api.Event{Piece: 3, Who: 0}, true}, {0, api.Self, 3, api.Event{Piece: 3, Who: 1}, true}, {1, api.Self, 0, api.Event{Piece: 0, Who: 0}, true},
		{0, api.Self, 3, api.Event{Piece: 4, Who: 0}, false}, {0, api.Self, 3, api.Event{Piece: -1, Who: 0}, false}, {0, api.Self, 0, api.Event{Piece: -1, Who: 0}, false}, {0, api.Self, math.MaxInt, api.Event{Piece: math.MinInt}, false},
	} {
		for ev := uint8(api.EvTry); ev <= api.EvEnd; ev++ {
			c.x.Ev = ev
			if match.Fits(c.who, c.id, ev, c.side, c.x) != c.want {
				t.Errorf("%d: Fits of %d", i, ev)
			}
		}
	}
}

// P11.1: an event's moment is nothing to Fits.
func TestFitsAtAnyMoment(t *testing.T) {
	for _, moment := range []int{0, -1, 6, math.MaxInt, math.MinInt} {
		if !match.Fits(0, 3, api.EvSummon, api.Mine, api.Event{Ev: api.EvSummon, Moment: moment}) {
			t.Errorf("Fits at %d", moment)
		}
	}
}

// P11.1: an event is of the Ev that is asked for, and EvNone fits nothing.
func TestFitsEv(t *testing.T) {
	for ev := uint8(0); ev <= api.EvEnd; ev++ {
		for of := uint8(0); of <= api.EvEnd; of++ {
			for side := uint8(0); side <= api.Self; side++ {
				x := api.Event{Ev: of, Piece: 3, Who: 1}
				who := uint8(1)
				if side == api.Theirs {
					who = 0
				}
				if want := ev == of && ev != api.EvNone; match.Fits(who, 3, ev, side, x) != want {
					t.Errorf("Fits(%d, %d) of %d", ev, side, of)
				}
			}
		}
	}
}

// P11.1: of no player, and of a side that is none: no, of all three.
func TestOfNobody(t *testing.T) {
	never := func(who, side uint8) {
		for _, whose := range []uint8{0, 1, 2, 1 - who, who} {
			x := api.Event{Ev: api.EvSummon, Moment: 6, Piece: 3, Who: whose}
			if match.Fits(who, 3, api.EvSummon, side, x) {
				t.Errorf("Fits(%d, %d) of %d", who, side, whose)
			}
			for _, mode := range []uint8{api.When, api.If, api.Must} {
				if match.Off(table(), who, 3, upon(mode, api.EvSummon, side), []api.Event{x}) {
					t.Errorf("Off(%d, %d) of %d", who, side, whose)
				}
			}
			if match.Link(who, side, []api.Link{{Who: whose, Piece: 3}}) {
				t.Errorf("Link(%d, %d) of %d", who, side, whose)
			}
		}
	}
	for who := 2; who < 256; who++ {
		for side := range 256 {
			never(uint8(who), uint8(side))
		}
	}
	for side := api.Self + 1; side < 256; side++ {
		never(0, uint8(side))
		never(1, uint8(side))
	}
}

// P11.1: what happened to who is no player is nobody's: it is neither mine nor theirs.
func TestOfNoneOfBoth(t *testing.T) {
	for whose := 2; whose < 256; whose++ {
		for who := range uint8(2) {
			for side, want := range []bool{api.Mine: false, api.Theirs: false, api.Any: true, api.Self: true} {
				x := api.Event{Ev: api.EvAttack, Piece: 3, Who: uint8(whose)}
				if match.Fits(who, 3, api.EvAttack, uint8(side), x) != want {
					t.Errorf("Fits(%d, %d) of %d", who, side, whose)
				}
			}
			for _, side := range []uint8{api.Mine, api.Theirs} {
				if match.Link(who, side, []api.Link{{Who: uint8(whose)}}) {
					t.Errorf("Link(%d, %d) of %d", who, side, whose)
				}
			}
		}
	}
}

// P11.1: of a mode that is not when, if, must: no.
func TestOffModes(t *testing.T) {
	l := []api.Event{{Ev: api.EvSummon, Moment: 6, Piece: 3}}
	for mode := range 256 {
		want := mode == api.When || mode == api.If || mode == api.Must
		for side, who := range []uint8{api.Mine: 0, api.Theirs: 1, api.Any: 1, api.Self: 1} {
			if match.Off(table(), who, 3, upon(uint8(mode), api.EvSummon, uint8(side)), l) != want {
				t.Errorf("Off of the mode %d, the side %d", mode, side)
			}
		}
	}
}

// P11.1: one event that fits is enough, wherever it stands; of when it must be of the last moment itself.
func TestOffMoments(t *testing.T) {
	now, then := api.Event{Ev: api.EvSummon, Moment: 6}, api.Event{Ev: api.EvSummon, Moment: 5}
	later, theirs, else1 := api.Event{Ev: api.EvSummon, Moment: 7}, api.Event{Ev: api.EvSummon, Moment: 6, Who: 1}, api.Event{Ev: api.EvDestroy, Moment: 6}
	for i, c := range []struct {
		l           []api.Event
		any, atLast bool
	}{
		{nil, false, false}, {[]api.Event{}, false, false},
		{[]api.Event{now}, true, true}, {[]api.Event{then}, true, false}, {[]api.Event{later}, true, false},
		{[]api.Event{then, now}, true, true}, {[]api.Event{now, then}, true, true}, {[]api.Event{then, later, then}, true, false},
		{[]api.Event{theirs}, false, false}, {[]api.Event{else1}, false, false}, {[]api.Event{theirs, else1}, false, false},
		{[]api.Event{then, theirs}, true, false}, {[]api.Event{else1, then}, true, false}, {[]api.Event{else1, theirs, now}, true, true}, {[]api.Event{now, theirs, else1}, true, true},
	} {
		for mode, want := range map[uint8]bool{api.When: c.atLast, api.If: c.any, api.Must: c.any} {
			if match.Off(table(), 0, 3, upon(mode, api.EvSummon, api.Mine), c.l) != want {
				t.Errorf("%d: Off of the mode %d", i, mode)
			}
		}
	}
	for _, moment := range []int{0, -1, math.MaxInt, math.MinInt} {
		x := table()
		x.Moment = moment
		at := api.Event{Ev: api.EvEnd, Moment: moment}
		if !match.Off(x, 0, 3, upon(api.When, api.EvEnd, api.Any), []api.Event{at}) {
			t.Errorf("Off at %d", moment)
		}
		x.Moment ^= 1
		if match.Off(x, 0, 3, upon(api.When, api.EvEnd, api.Any), []api.Event{at}) {
			t.Errorf("Off behind %d", moment)
		}
	}
}

// P11.1: what set it off is what was told, not what the table tells; nor need the table be one that may be.
func TestOffOfEventsTold(t *testing.T) {
	x := table()
	x.Events = lately()
	e := upon(api.If, api.EvSummon, api.Any)
	if match.Off(x, 0, 3, e, nil) {
		t.Error("Off of nothing")
	}
	if !match.Off(api.Table{}, 0, 3, e, lately()) {
		t.Error("Off of no table")
	}
}

// P11.1: of an effect the Ev, the Side and the mode count alone.
func TestOffOfTheEffect(t *testing.T) {
	e := upon(api.If, api.EvSummon, api.Mine)
	e.Pay, e.Discard, e.Tribute, e.Pick, e.Cond = 99999, 6, true, 3, []api.Expr{{}}
	if !match.Off(table(), 0, 3, e, lately()) {
		t.Error("Off of an effect that costs much")
	}
	e = upon(api.If, api.EvNone, api.Any)
	if match.Off(table(), 0, 3, e, []api.Event{{}, {Ev: api.EvTry}}) {
		t.Error("Off upon nothing")
	}
}

// P11.1: whose the last link is, as the side says.
func TestLink(t *testing.T) {
	own, other := api.Link{Who: 0, Piece: 5}, api.Link{Who: 1, Piece: 6, Dead: true}
	for i, c := range []struct {
		l                 []api.Link
		mine, theirs, any bool
	}{
		{nil, false, false, false}, {[]api.Link{}, false, false, false},
		{[]api.Link{own}, true, false, true}, {[]api.Link{other}, false, true, true},
		{[]api.Link{own, other}, false, true, true}, {[]api.Link{other, own}, true, false, true},
		{[]api.Link{other, other, own}, true, false, true}, {[]api.Link{own, own, other}, false, true, true},
	} {
		for side, want := range []bool{api.Mine: c.mine, api.Theirs: c.theirs, api.Any: c.any, api.Self: false} {
			if match.Link(0, uint8(side), c.l) != want {
				t.Errorf("%d: Link of 0, %d", i, side)
			}
		}
		for side, want := range []bool{api.Mine: c.theirs, api.Theirs: c.mine, api.Any: c.any, api.Self: false} {
			if match.Link(1, uint8(side), c.l) != want {
				t.Errorf("%d: Link of 1, %d", i, side)
			}
		}
	}
	for _, piece := range []int{-1, 0, 3} {
		if match.Link(0, api.Self, []api.Link{{Piece: piece}}) {
			t.Errorf("Link of self, of the piece %d", piece)
		}
	}
}

// What was handed in stays as it is, the room behind its end, too.
func TestStays(t *testing.T) {
	events, links := append(lately(), lately()...), []api.Link{{Who: 1}, {Who: 0}, {Who: 1}}
	for _, mode := range []uint8{api.When, api.If, api.Must} {
		match.Off(table(), 1, 3, upon(mode, api.EvDamage, api.Mine), events[:2])
	}
	match.Link(0, api.Mine, links[:2])
	if !slices.Equal(events, append(lately(), lately()...)) || links[0].Who != 1 || links[1].Who != 0 || links[2].Who != 1 {
		t.Error("what was handed in changed")
	}
}
