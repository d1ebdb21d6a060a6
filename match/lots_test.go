package match_test

import (
	"math/rand/v2"
	"testing"

	"joust/api"
	"joust/match"
)

// fits is a second reading, side by side.
func fits(who uint8, id int, ev, side uint8, x api.Event) bool {
	if who != 0 && who != 1 || ev == api.EvNone || x.Ev != ev {
		return false
	}
	switch side {
	case api.Mine:
		return x.Who == who
	case api.Theirs:
		return who == 0 && x.Who == 1 || who == 1 && x.Who == 0
	case api.Self:
		return x.Piece == id
	}
	return side == api.Any
}

// off is a second reading: it goes through all events.
func off(t api.Table, who uint8, id int, e api.Effect, l []api.Event) bool {
	some, last := false, false
	for _, x := range l {
		if fits(who, id, e.Ev, e.Side, x) {
			some = true
			last = last || x.Moment == t.Moment
		}
	}
	return e.Mode == api.When && last || (e.Mode == api.If || e.Mode == api.Must) && some
}

// link is a second reading, by whose the last link is.
func link(who, side uint8, l []api.Link) bool {
	if len(l) == 0 || who > 1 {
		return false
	}
	last := l[len(l)-1].Who
	return side == api.Any || side == api.Mine && last == who || side == api.Theirs && last+who == 1
}

// P11.1: all three, by lot, against the second reading.
func TestLots(t *testing.T) {
	lot := rand.New(rand.NewPCG(11, 1))
	number := func(n int) uint8 { return uint8(lot.IntN(n)) }
	seen := map[bool]int{}
	for range 200000 {
		who, id := number(9)/4, lot.IntN(4)
		x := api.Table{Moment: lot.IntN(4)}
		e := api.Effect{Mode: number(api.Aura + 2), Ev: number(4), Side: number(5)}
		if lot.IntN(2) == 0 {
			e.Mode = api.When + number(3)
		}
		events, links := make([]api.Event, lot.IntN(4)), make([]api.Link, lot.IntN(4))
		for i := range events {
			events[i] = api.Event{Ev: number(4), Moment: lot.IntN(4), Piece: lot.IntN(5) - 1, Who: number(2)}
			if is := fits(who, id, e.Ev, e.Side, events[i]); match.Fits(who, id, e.Ev, e.Side, events[i]) != is {
				t.Fatalf("Fits(%d, %d, %d, %d, %+v) = %v", who, id, e.Ev, e.Side, events[i], !is)
			}
		}
		for i := range links {
			links[i] = api.Link{Who: number(2), Piece: lot.IntN(4), Dead: lot.IntN(2) == 0}
		}
		is := off(x, who, id, e, events)
		if match.Off(x, who, id, e, events) != is {
			t.Fatalf("Off(%d, %d, %d, %+v, %+v) = %v", x.Moment, who, id, e, events, !is)
		}
		seen[is]++
		if is := link(who, e.Side, links); match.Link(who, e.Side, links) != is {
			t.Fatalf("Link(%d, %d, %+v) = %v", who, e.Side, links, !is)
		}
	}
	if seen[true] < 5000 || seen[false] < 5000 {
		t.Errorf("%v", seen)
	}
}
