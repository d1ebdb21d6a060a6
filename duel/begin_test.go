package duel_test

import (
	"reflect"
	"slices"
	"testing"

	"joust/api"
	"joust/board"
	"joust/duel"
)

// P17.1: a duel begins with the lots of 0, whatever the decks are.
func TestBegin(t *testing.T) {
	for _, decks := range [][2][]int{{{ogre}, {rain}}, {{ogre, rain, gust}, {lord, lord, lord, lord, lord}}, {slices.Repeat([]int{imp}, api.MaxDeck), {bar}}, {{bar}, slices.Repeat([]int{imp}, api.MaxDeck)}} {
		g := begin(t, pool(), decks)
		table, _ := board.New(pool(), decks)
		want := api.Duel{Table: table, Lots: len(decks[0]), Try: -1, Attacker: -1, Target: -1}
		if !reflect.DeepEqual(duel.Copy(g.d), duel.Copy(want)) {
			t.Errorf("Begin(%v) = %+v", decks, bare(g.d))
		}
		g.lots(0, len(decks[0]))
	}
}

// lots asks for so many options of the lots of a player.
func (g *game) lots(who uint8, n int) {
	g.t.Helper()
	var l []api.Option
	for place := range n {
		l = append(l, option(api.OpLot, -1, place))
	}
	g.asks(who, api.AtLot, l...)
}

// P17.1: Begin refuses what board.New refuses, and a deck without a card.
func TestBeginErrors(t *testing.T) {
	strong := append(pool(), unit("strong", api.MaxNumber+1, 0), unit("weak", 0, -1))
	for _, decks := range [][2][]int{
		{nil, nil}, {{ogre}, nil}, {nil, {ogre}}, {{}, {ogre}}, {{ogre}, {}},
		{{ogre}, {len(strong)}}, {{-1}, {ogre}}, {{ogre}, {ogre, kin}}, {{ogre}, {kin + 1}},
		{{ogre}, slices.Repeat([]int{ogre}, api.MaxDeck+1)}, {slices.Repeat([]int{ogre}, api.MaxDeck+1), {ogre}},
	} {
		if d, e := duel.Begin(strong, decks); e != api.ErrArg || !reflect.DeepEqual(d, api.Duel{}) {
			t.Errorf("Begin(%v) = %+v, %d", decks, bare(d), e)
		}
	}
	if d, e := duel.Begin(nil, [2][]int{{0}, {0}}); e != api.ErrArg || !reflect.DeepEqual(d, api.Duel{}) {
		t.Errorf("Begin of no kinds = %d", e)
	}
}

// deck are the cards of a player's deck, by places.
func (g *game) deck(who uint8) []int { return board.In(g.d.Table, who, api.Deck) }

// P17.1, P17.2: each lot puts a card of the deck behind all others; 0 first, then 1, from as many places as are left.
func TestLots(t *testing.T) {
	decks := [2][]int{make([]int, 6), make([]int, 8)}
	lots := [2][]int{{5, 0, 3, 1, 1, 0}, {0, 6, 5, 1, 3, 2, 1, 0}}
	g := begin(t, pool(), decks)
	for who := range uint8(2) {
		for i, place := range lots[who] {
			left := len(lots[who]) - i
			g.lots(who, left)
			last := who == 1 && left == 1
			if last {
				break
			}
			g.leads(option(api.OpLot, -1, place), func(d *api.Duel) {
				moved(d, g.deck(who)[place], api.Deck, who, false, false)
				if d.Lots--; d.Lots == 0 {
					d.Whose, d.Lots = 1, len(decks[1])
				}
			})
		}
	}
	if l := g.deck(0); !slices.Equal(l, []int{5, 0, 4, 2, 3, 1}) {
		t.Errorf("deck of 0: %v", l)
	}
	if l := g.deck(1); !slices.Equal(l, []int{7, 6, 13, 12, 8, 11, 10, 9}) {
		t.Errorf("deck of 1: %v", l)
	}
	g.decide(0)
	g.at(api.AtIdle)
	if l := board.In(g.d.Table, 0, api.Hand); !slices.Equal(l, []int{5, 0, 4, 2, 3}) {
		t.Errorf("hand of 0: %v", l)
	}
	if l := board.In(g.d.Table, 1, api.Hand); !slices.Equal(l, []int{6, 13, 12, 8, 11}) {
		t.Errorf("hand of 1: %v", l)
	}
}

// P17.2: behind the lots each draws five, 0 first, and the first turn begins: nothing is drawn for it.
func TestFirstTurn(t *testing.T) {
	g := begin(t, pool(), [2][]int{make([]int, 6), make([]int, 7)})
	for range 12 {
		g.decide(0)
	}
	g.lots(1, 1)
	g.leads(option(api.OpLot, -1, 0), func(d *api.Duel) {
		moved(d, 12, api.Deck, 1, false, false)
		for id := range 5 {
			moved(d, id, api.Hand, 0, false, false)
		}
		for id := 6; id < 11; id++ {
			moved(d, id, api.Hand, 1, false, false)
		}
		d.Lots = 0
		d.Table.Moment += 2
		happens(d, api.Event{Ev: api.EvStandby, Piece: -1, Who: 0})
		settles(d, api.ThenIdle)
		d.Stage = api.AtIdle
	})
	g.asks(0, api.AtIdle, summon(0), option(api.OpSet, 0, -1), summon(1), option(api.OpSet, 1, -1), summon(2), option(api.OpSet, 2, -1), summon(3), option(api.OpSet, 3, -1), summon(4), option(api.OpSet, 4, -1), end)
}

// P17.2: who has fewer than five cards can't draw them, and has lost when the first turn begins.
func TestSmallDecks(t *testing.T) {
	for _, c := range []struct {
		sizes  [2]int
		winner uint8
	}{{[2]int{4, 5}, 1}, {[2]int{5, 4}, 0}, {[2]int{4, 4}, 2}, {[2]int{1, 1}, 2}, {[2]int{1, 40}, 1}, {[2]int{40, 1}, 0}} {
		g := begin(t, pool(), [2][]int{make([]int, c.sizes[0]), make([]int, c.sizes[1])})
		for range c.sizes[0] + c.sizes[1] {
			g.at(api.AtLot)
			g.decide(0)
		}
		g.over(api.ByDeck, c.winner)
		if l := g.d.Table.Events; g.d.Table.Turn != 1 || len(l) != 1 || l[0].Ev != api.EvStandby || len(g.d.Recent) != 0 {
			t.Errorf("%v: %+v", c.sizes, bare(g.d))
		}
	}
	g := begun(t, pool(), [2][]int{make([]int, 5), make([]int, 5)})
	g.at(api.AtIdle)
}
