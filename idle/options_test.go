package idle_test

import (
	"math"
	"slices"
	"testing"

	"joust/api"
	"joust/can"
	"joust/idle"
)

// P16.1: from level 5 on a piece of the own Row is given up for a unit; below nothing is.
func TestLevels(t *testing.T) {
	for _, level := range []int{math.MinInt, -1, 0, 1, 3, 4, 5, 6, 7, 12, math.MaxInt} {
		x := table(t, hand(pawn, 0), row(0, 2), row(0, 1))
		x.Kinds[pawn].Level = level
		want := summon(0, -1)
		if level > 4 {
			want = slices.Concat(summon(0, 2), summon(0, 1))
		}
		offers(t, "a level", x, want...)
	}
	offers(t, "a great one, and an empty Row", table(t, hand(lord, 0), row(1, 0)))
}

// full is a full Row of a player, that may not be turned.
func full(who uint8) []api.Piece {
	var l []api.Piece
	for at := range api.Slots {
		l = append(l, row(who, api.Slots-1-at))
	}
	return l
}

// P16.1: a small unit needs a free place in Row; a great one a piece there, whatever that is, wherever it came from.
func TestRoomInRow(t *testing.T) {
	behind := []api.Piece{hand(pawn, 0), hand(lord, 1)}
	great := slices.Concat(summon(6, 4), summon(6, 3), summon(6, 2), summon(6, 1), summon(6, 0))
	offers(t, "a full Row", table(t, append(full(0), behind...)...), great...)
	offers(t, "one place", table(t, append(full(0)[1:], behind...)...), slices.Concat(summon(4, -1), summon(5, 3), summon(5, 2), summon(5, 1), summon(5, 0))...)
	offers(t, "the other one's full Row", table(t, append(full(1), behind...)...), summon(5, -1)...)
	for what, p := range map[string]api.Piece{
		"a token": of(-1, row(0, 3)), "taken": taken(row(0, 3)), "great": of(lord, row(0, 3)),
		"face down": {Zone: api.Row, At: 3, Since: 3}, "Low, struck, turned": {Zone: api.Row, At: 3, Since: 3, Low: true, Struck: true, Turned: true},
	} {
		offers(t, what, table(t, append(behind, p)...), slices.Concat(summon(0, -1), summon(1, 2))...)
	}
	offers(t, "taken by the other one", table(t, append(behind, taken(row(1, 0)))...), summon(0, -1)...)
}

// P16.1: what is not in the own hand is neither summoned nor laid.
func TestHandAlone(t *testing.T) {
	var l []api.Piece
	for _, zone := range []uint8{api.Deck, api.Grave, api.Exile} {
		l = append(l, in(pawn, 0, zone, 0), in(rain, 0, zone, 1), in(lord, 0, zone, 2))
	}
	l = append(l, in(pawn, 0, api.Limbo, 0), in(-1, 0, api.Nowhere, 0), row(0, 1), in(net, 0, api.Back, 0))
	l = append(l, in(pawn, 1, api.Hand, 0), in(rain, 1, api.Hand, 1), in(lord, 1, api.Hand, 2))
	offers(t, "nothing in hand", table(t, l...), play(12, 0))
	x := table(t, append(l, hand(rain, 0), hand(pawn, 1), hand(lord, 2))...)
	offers(t, "a Limbo in which one is", x, slices.Concat(summon(17, -1), summon(18, 11), []api.Option{lay(16), play(12, 0), play(16, 0)})...)
}

// P16.1: each card that is no unit may be laid, whatever it is, if a place in Back is free; by places.
func TestLays(t *testing.T) {
	l := []api.Piece{hand(odd, 4), hand(stop, 0), hand(net, 3), hand(wind, 1), hand(rain, 2)}
	offers(t, "each kind", table(t, l...), lay(1), lay(3), lay(4), lay(2), lay(0), play(3, 0), play(4, 0))
	for at := range api.Slots {
		p := since(3, in(net, 0, api.Back, at))
		l, p.Up = append(l, p), true
		if at == api.Slots-2 {
			offers(t, "one place", table(t, l...), lay(1), lay(3), lay(4), lay(2), lay(0), play(3, 0), play(4, 0))
		}
	}
	x := table(t, l...)
	offers(t, "a full Back", x)
	for i := range l[5:] {
		x.Pieces[5+i].Has, x.Pieces[5+i].Owner = 1, 1
	}
	offers(t, "the other one's full Back", x, lay(1), lay(3), lay(4), lay(2), lay(0), play(3, 0), play(4, 0))
}

// P16.1: what may be activated is can's, of a main phase in which nothing happened lately and nobody summons; by the pieces' numbers, then by effects.
func TestPlays(t *testing.T) {
	x := table(t, of(mage, row(0, 3)), in(rain, 0, api.Back, 1), in(wind, 0, api.Back, 0), of(mage, row(0, 0)), in(net, 0, api.Back, 4), in(stop, 0, api.Back, 2), in(odd, 0, api.Back, 3), of(mage, row(1, 0)), in(rain, 1, api.Back, 0))
	want := []api.Option{play(0, 0), play(0, 2), play(1, 0), play(2, 0), play(3, 0), play(3, 2), play(4, 0), play(5, 0), play(6, 0)}
	offers(t, "all", x, want...)
	for _, x := range []api.Table{x, other(x)} {
		var l []api.Option
		for _, r := range can.All(x, x.Player, api.Window{Main: true}) {
			l = append(l, play(r.Piece, r.Effect))
		}
		if is := idle.Options(x, true, true); !slices.Equal(is, append(l, end)) {
			t.Errorf("Options of %d = %v; not %v", x.Player, is, l)
		}
	}
	x.Pieces[3].Used, x.Pieces[0].Used = 1, 4
	x.Kinds[net].Effects[0].Pay = 8000
	offers(t, "what can be afforded", x, play(0, 0), play(1, 0), play(2, 0), play(3, 2), play(5, 0), play(6, 0))
	x.Events = []api.Event{{Ev: api.EvTry, Piece: 0, Moment: 7}, {Ev: api.EvSummon, Piece: 0, Moment: 7}}
	for def := range x.Kinds {
		for i := range x.Kinds[def].Effects {
			x.Kinds[def].Effects[i].Ev, x.Kinds[def].Effects[i].Side = api.EvSummon, api.Any
		}
	}
	offers(t, "plays upon what happened", x, play(0, 0), play(3, 2))
}

// P16.1: what is turned: own pieces in Row, there since an earlier turn, not turned, that did not attack; by places.
func TestTurns(t *testing.T) {
	for _, c := range []struct {
		what string
		p    api.Piece
		want bool
	}{
		{"there since the turn before", since(2, row(0, 1)), true},
		{"there since ever", since(0, row(0, 1)), true},
		{"there since before", since(math.MinInt, row(0, 1)), true},
		{"there since this turn", since(3, row(0, 1)), false},
		{"there since a later one", since(math.MaxInt, row(0, 1)), false},
		{"turned", api.Piece{Zone: api.Row, At: 1, Up: true, Turned: true}, false},
		{"struck", api.Piece{Zone: api.Row, At: 1, Up: true, Struck: true}, false},
		{"face down", api.Piece{Zone: api.Row, At: 1}, true},
		{"Low", api.Piece{Zone: api.Row, At: 1, Up: true, Low: true}, true},
		{"Low and face down", api.Piece{Zone: api.Row, At: 1, Low: true}, true},
		{"used, boosted", api.Piece{Zone: api.Row, At: 1, Up: true, Used: 255, Boost: -9}, true},
		{"a token", of(-1, since(2, row(0, 1))), true},
		{"taken", taken(since(2, row(0, 1))), true},
		{"the other one's", since(2, row(1, 1)), false},
		{"taken by the other one", taken(since(2, row(1, 1))), false},
		{"in Back", in(net, 0, api.Back, 1), false},
		{"in the grave", in(pawn, 0, api.Grave, 0), false},
		{"in Limbo", in(pawn, 0, api.Limbo, 0), false},
		{"Nowhere", in(-1, 0, api.Nowhere, 0), false},
	} {
		x := table(t, c.p, since(1, row(0, 4)), since(2, row(0, 0)))
		x.Kinds[net].Effects = nil
		want := []api.Option{turn(2), turn(1)}
		if c.want {
			want = []api.Option{turn(2), turn(0), turn(1)}
		}
		offers(t, c.what, x, want...)
	}
}
