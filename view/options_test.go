package view_test

import (
	"slices"
	"testing"

	"joust/api"
	"joust/duel"
	"joust/view"
)

func option(do uint8, piece, arg int) api.Option { return api.Option{Do: do, Piece: piece, Arg: arg} }

var (
	pass   = option(api.OpPass, -1, -1)
	battle = option(api.OpBattle, -1, -1)
	end    = option(api.OpEnd, -1, -1)
)

// sees asks what the one who is asked sees that may be decided; the other one sees nothing of it.
func sees(t *testing.T, what string, d api.Duel, who, stage uint8, want ...api.Option) {
	t.Helper()
	for player := range uint8(2) {
		v := view.Of(d, player)
		if v.Asked != who || v.Stage != stage {
			t.Errorf("%s: %d is asked at %d; not %d at %d", what, v.Asked, v.Stage, who, stage)
		}
		if player == who && !slices.Equal(v.Options, want) {
			t.Errorf("%s: %v; not %v", what, v.Options, want)
		}
		if player != who && len(v.Options) > 0 {
			t.Errorf("%s: the other one sees %v", what, v.Options)
		}
	}
}

// P18.1: in a main phase pieces are told by lines, so is what is given up; numbers of effects stay.
func TestIdle(t *testing.T) {
	d := laid(t)
	put(t, &d, 7, api.Hand, 0, false, false)
	put(t, &d, 0, api.Hand, 0, false, false)
	for id := range d.Table.Pieces {
		d.Table.Pieces[id].Since = 1
	}
	// in hand are a rain, a sage, a lord; in Row an ogre at 0, a seer at 2, the other one's ogre at 3
	sees(t, "idle", d, 0, api.AtIdle,
		option(api.OpSummon, 1, -1), option(api.OpSet, 1, -1),
		option(api.OpSummon, 2, 3), option(api.OpSet, 2, 3), option(api.OpSummon, 2, 4), option(api.OpSet, 2, 4), option(api.OpSummon, 2, 5), option(api.OpSet, 2, 5),
		option(api.OpLay, 0, -1), option(api.OpPlay, 0, 0),
		option(api.OpTurn, 3, -1), option(api.OpTurn, 4, -1), option(api.OpTurn, 5, -1),
		battle, end)
	d.Table.Player = 1
	sees(t, "idle", d, 1, api.AtIdle, option(api.OpLay, 9, -1), option(api.OpPlay, 9, 0), option(api.OpTurn, 10, -1), option(api.OpTurn, 11, -1), battle, end)
}

// P18.1: the number of an effect stays, whichever it is; options stay in the order that they are asked in.
func TestEffects(t *testing.T) {
	kinds := pool(t)
	swift := kinds[imp].Effects[0]
	swift.Pick, swift.Steps[0].All = 0, true
	for i := range kinds[ogre:bar] {
		kinds[i].Effects = append(slices.Clone(kinds[i].Effects), swift)
	}
	d := laid(t)
	d.Table.Kinds = kinds
	sees(t, "idle", d, 0, api.AtIdle, option(api.OpLay, 0, -1), option(api.OpPlay, 2, 2), option(api.OpPlay, 1, 0), option(api.OpPlay, 4, 0),
		option(api.OpTurn, 1, -1), option(api.OpTurn, 2, -1), option(api.OpTurn, 3, -1), option(api.OpTurn, 4, -1), battle, end)
}

// P18.1: a line for each place of a deck, by lot: options of no piece stay as they are.
func TestLot(t *testing.T) {
	d, _ := duel.Begin(pool(t), [2][]int{{ogre, rain, lord}, {ogre, stop}})
	lot := func(n int) (l []api.Option) {
		for i := range n {
			l = append(l, option(api.OpLot, -1, i))
		}
		return l
	}
	for n := range 3 {
		sees(t, "lots", d, 0, api.AtLot, lot(3-n)...)
		d = decided(t, d, 0)
	}
	sees(t, "lots", d, 1, api.AtLot, lot(2)...)
}

// P18.1: whom one attacks is told by its line; nobody stays nobody.
func TestBattle(t *testing.T) {
	d := laid(t)
	d.Stage = api.AtBattle
	sees(t, "battle", d, 0, api.AtBattle, option(api.OpAttack, 1, 9), option(api.OpAttack, 1, 10), option(api.OpAttack, 2, 9), option(api.OpAttack, 2, 10), end)
	put(t, &d, 10, api.Grave, 1, true, false)
	put(t, &d, 16, api.Grave, 1, true, false)
	sees(t, "battle", d, 0, api.AtBattle, option(api.OpAttack, 1, -1), option(api.OpAttack, 2, -1), end)
}

// P18.1: answers, picks of what is known and of what is not, orders, drops.
func TestStages(t *testing.T) {
	d := laid(t)
	d.Stage, d.Asked, d.Recent = api.AtAnswer, 1, []api.Event{{Ev: api.EvSummon, Piece: 1}}
	sees(t, "answers", d, 1, api.AtAnswer, pass, option(api.OpCard, 11, 0))
	d.Asked = 0
	sees(t, "answers", d, 0, api.AtAnswer, pass)
	d.Stage = api.AtPick
	d.Choice.Ready = api.Ready{Who: 1, Piece: 14, Effect: 0}
	sees(t, "picks in Rows", d, 1, api.AtPick, option(api.OpPick, 9, -1), option(api.OpPick, 10, -1), option(api.OpPick, 1, -1), option(api.OpPick, 2, -1), option(api.OpPick, 3, -1), option(api.OpPick, 4, -1))
	d.Choice.Ready.Piece = 8
	d.Table.Pieces[8].Has, d.Choice.Ready.Who = 0, 0
	sees(t, "picks in Back", d, 0, api.AtPick, option(api.OpPick, 11, -1))
	d.Stage, d.Waits = api.AtOrder, []api.Ready{{Who: 1, Piece: 16, Effect: 5}, {Who: 0, Piece: 5, Effect: 1}, {Who: 0, Piece: 2, Effect: 3}}
	sees(t, "orders", d, 0, api.AtOrder, option(api.OpCard, 7, 1), option(api.OpCard, 3, 3), pass)
	put(t, &d, 7, api.Hand, 0, false, false)
	d.Stage = api.AtDrop
	sees(t, "drops", d, 0, api.AtDrop, option(api.OpDrop, 0, -1), option(api.OpDrop, 1, -1))
}

// P18.1: a piece that has no line is told as none; one in a deck by its place there.
func TestPicksOfOtherZones(t *testing.T) {
	d := laid(t)
	d.Stage, d.Choice.Ready = api.AtPick, api.Ready{Piece: 6}
	for _, c := range []struct {
		zone uint8
		want []api.Option
	}{
		{api.Nowhere, []api.Option{option(api.OpPick, -1, -1)}},
		{api.Deck, []api.Option{option(api.OpPick, 14, -1), option(api.OpPick, 15, -1), option(api.OpPick, 16, -1)}},
		{api.Limbo, []api.Option{option(api.OpPick, 13, -1)}},
		{api.Exile, []api.Option{option(api.OpPick, 12, -1)}},
	} {
		d.Table.Kinds[rain].Effects[0].Pick, d.Table.Kinds[rain].Effects[0].Sel = 1, api.Sel{Side: api.Any, Zone: c.zone}
		sees(t, "picks", d, 0, api.AtPick, c.want...)
	}
}

// P18.1: when it is over nobody is asked, and nothing is hidden less.
func TestOver(t *testing.T) {
	d := laid(t)
	before := [2]api.View{view.Of(d, 0), view.Of(d, 1)}
	for winner := range uint8(3) {
		d.Stage, d.Reason, d.Winner = api.AtOver, api.ByLife, winner
		sees(t, "over", d, 0, api.AtOver)
		for who := range uint8(2) {
			if !slices.Equal(view.Of(d, who).Pieces, before[who].Pieces) {
				t.Errorf("%d sees %+v", who, view.Of(d, who))
			}
		}
	}
}

// P18.1: a duel by hand: what is asked for ahead of a unit being there, and behind it.
func TestSummon(t *testing.T) {
	d := begun(t, pool(t), [2][]int{{rain, ogre, seer, ogre, imp, lord}, {bar, ogre, ogre, stop, pit, ogre}})
	d = does(t, d, option(api.OpSummon, 1, -1))
	sees(t, "the unit in Limbo", d, 1, api.AtAnswer, pass)
	limbo := api.Seen{Zone: api.Limbo, Known: true, Def: ogre, Attack: 1800, Up: true}
	for who := range uint8(2) {
		if v := view.Of(d, who); v.Pieces[4] != limbo || v.Pieces[4-1].Zone != api.Hand {
			t.Errorf("%d sees %+v", who, v)
		}
	}
	d = does(t, d, pass, pass)
	sees(t, "the unit in Row", d, 0, api.AtAnswer, pass)
}
