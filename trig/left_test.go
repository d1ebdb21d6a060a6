package trig_test

import (
	"math"
	"slices"
	"testing"

	"joust/api"
	"joust/trig"
)

// leaves asks what Left tells.
func leaves(t *testing.T, what string, x api.Table, l []api.Ready, want ...api.Ready) {
	t.Helper()
	if is := trig.Left(x, l); !slices.Equal(is, want) {
		t.Errorf("%s: Left = %v; not %v", what, is, want)
	}
}

// P13.1: they come as they stand: neither put in order, nor told once, nor their Must told anew.
func TestLeftAsItStands(t *testing.T) {
	l := []api.Ready{{Who: 1, Piece: 5, Effect: 3, Must: true}, {Piece: 6}, {Who: 1, Piece: 5, Effect: 1}, {Piece: 3, Effect: 1, Must: true}, {Piece: 6}, {Piece: 1, Effect: 1}}
	leaves(t, "all", many(t), l, l...)
	leaves(t, "none", many(t), nil)
	leaves(t, "none", many(t), []api.Ready{})
}

// P13.1: whose turn it is, and what happened since, is nothing to it.
func TestLeftWhatever(t *testing.T) {
	x := many(t)
	l := trig.Collect(x, destroyed(far, 0))
	x.Player, x.Moment, x.Events = 1, 12, []api.Event{{Ev: api.EvEnd, Moment: 11}}
	leaves(t, "later", x, l, l...)
}

// P13.1: who has a piece no more, or never had, has nothing left; nor are pieces, players and effects that may not be, nor effects that are no triggers.
func TestLeftOfNothing(t *testing.T) {
	x := many(t)
	x.Pieces = append(x.Pieces, api.Piece{Def: -1, Zone: api.Row, At: 3, Up: true})
	good := api.Ready{Piece: 3, Effect: 1, Must: true}
	l := []api.Ready{good}
	for _, n := range []int{math.MinInt, -1, len(x.Pieces), math.MaxInt} {
		l = append(l, api.Ready{Piece: n, Effect: 1}, api.Ready{Piece: 3, Effect: n})
	}
	for who := 1; who < 256; who++ {
		l = append(l, api.Ready{Who: uint8(who), Piece: 3, Effect: 1, Must: true})
	}
	l = append(l, api.Ready{Piece: 3, Effect: 2}, api.Ready{Piece: 1}, api.Ready{Piece: 2}, api.Ready{Piece: 7}, good)
	leaves(t, "of nothing", x, l, good, good)
	x.Pieces[3].Has, x.Pieces[3].At = 1, 4
	leaves(t, "taken", x, []api.Ready{good, {Who: 1, Piece: 3, Effect: 1}}, api.Ready{Who: 1, Piece: 3, Effect: 1})
}

// P13.1: what was changed since can keep a trigger from coming: where its piece is, whether it is Up, what it costs.
func TestLeftSince(t *testing.T) {
	pays, drops, needs := upon(api.Must, api.Any), upon(api.If, api.Any), upon(api.When, api.Any)
	pays.Pay, drops.Discard = 8000, 1
	needs.Cond = []api.Expr{{Op: api.ExCount, Sel: api.Sel{Side: api.Theirs, Zone: api.Row}}}
	kinds := []api.Card{unit(pays, drops, needs, upon(api.If, api.Self))}
	begun := func() api.Table {
		x := table(t, kinds, inRow(), at(0, 0, api.Hand, 0), at(0, 1, api.Row, 0))
		x.Life[0] = 8001
		return x
	}
	all := []api.Ready{{Must: true}, {Effect: 1}, {Effect: 2}, {Effect: 3}}
	for _, c := range []struct {
		what   string
		change func(*api.Table)
		want   []api.Ready
	}{
		{"as it was", func(*api.Table) {}, all},
		{"of less life", func(x *api.Table) { x.Life[0] = 8000 }, all[1:]},
		{"without a hand", func(x *api.Table) { x.Pieces[1].Zone = api.Grave }, []api.Ready{all[0], all[2], all[3]}},
		{"without the other one", func(x *api.Table) { x.Pieces[2].Zone = api.Exile }, []api.Ready{all[0], all[1], all[3]}},
		{"used", func(x *api.Table) { x.Pieces[0].Used = 2 + 8 }, []api.Ready{all[0], all[2]}},
		{"face down", func(x *api.Table) { x.Pieces[0].Up = false }, nil},
		{"in a grave", func(x *api.Table) { x.Pieces[0].Zone = api.Grave }, all[3:]},
		{"in the hand", func(x *api.Table) { x.Pieces[0].Zone, x.Pieces[0].At = api.Hand, 1 }, nil},
	} {
		x := begun()
		c.change(&x)
		leaves(t, c.what, x, all, c.want...)
	}
}
