package report_test

import (
	"math/rand/v2"
	"slices"
	"strconv"
	"strings"
	"testing"

	"joust/api"
	"joust/board"
	"joust/duel"
	"joust/report"
	"joust/view"
)

// P20.2, P0.5: what 1 has in hand, in the deck and face down may be other cards: 0 sees the same, and may decide the same; 1 doesn't see the same.
func TestHidden(t *testing.T) {
	const first = "deck { 3 ogre 3 imp } "
	record := lots(6, 8) + ends(0) + idle(1, api.OpLay, 6, -1) + idle(1, api.OpSet, 7, -1) + refused(1, 1) + ends(1) + idle(0, api.OpSummon, 0, -1) +
		refused(1, 3) + passes(1) + passes(0) + refused(0, 1) + idle(0, api.OpBattle, -1, -1)
	is := first + "deck { 1 gale 1 ogre 3 imp 3 echo }"
	numbers := script(t, is, record)
	sees := [2][]api.View{report.Sights(pool, is, numbers, 0), report.Sights(pool, is, numbers, 1)}
	for _, other := range []string{"deck { 1 bar 1 imp 3 ogre 3 late }", "deck { 1 no 1 ghost 3 echo 3 fell }", "deck { 1 rain 1 bird 3 echo 3 fog }"} {
		numbers := script(t, first+other, record)
		views := report.Sights(pool, first+other, numbers, 0)
		if !slices.EqualFunc(views, sees[0], view.Same) {
			t.Errorf("0 sees what is hidden: %s", other)
		}
		own := report.Sights(pool, first+other, numbers, 1)
		for i := range own {
			if (i < 14) != view.Same(own[i], sees[1][i]) {
				t.Errorf("%d: 1 sees %+v: %s", i, own[i], other)
			}
		}
		if s := report.Run(pool, first+other, numbers); s != record+"life 8000 8000\nturn 3 player 0\nstage 5\n" {
			t.Errorf("Run = %q", s)
		}
	}
}

// decksOf is two decks of one card of each kind.
func decksOf(defs []int, first int) string {
	text := "deck { "
	for i, def := range defs {
		if i == first {
			text += "} deck { "
		}
		text += "1 k" + strconv.Itoa(def) + " "
	}
	return text + "}"
}

// secret tells which cards a player never knew, and whether each was ever on the table.
func secret(c course, who uint8) map[int]bool {
	hidden := map[int]bool{}
	for id, p := range c.duels[0].Table.Pieces {
		known := p.Def < 0
		onTable := false
		for _, d := range c.duels {
			known = known || view.Known(d.Table, id, who)
			zone := d.Table.Pieces[id].Zone
			onTable = onTable || zone == api.Row || zone == api.Back || zone == api.Limbo
		}
		if !known {
			hidden[id] = onTable
		}
	}
	return hidden
}

// otherwise is decks in which the cards that are hidden are other ones: on the table a unit is one still, and what is none isn't.
func (l chance) otherwise(d api.Duel, hidden map[int]bool, first int) ([]int, int) {
	var defs []int
	for _, p := range d.Table.Pieces {
		defs = append(defs, p.Def)
	}
	changed := 0
	for id := range defs {
		onTable, isHidden := hidden[id]
		if !isHidden {
			continue
		}
		own := defs[:first]
		if id >= first {
			own = defs[first:]
		}
		def := l.IntN(len(d.Table.Kinds))
		isUnit := d.Table.Kinds[def].Kind == api.Unit
		if !slices.Contains(own, def) && (!onTable || isUnit == (board.Kind(d.Table, id) == api.Unit)) {
			defs[id] = def
			changed++
		}
	}
	return defs, changed
}

// again is a script that decides in another duel what a course decided, as far as that may be decided there; where that player is asked, it is just the same numbers.
func again(t *testing.T, c course, d api.Duel, who uint8) []int {
	t.Helper()
	var numbers []int
	for i, n := range c.numbers {
		p, was := duel.Ask(d), duel.Ask(c.duels[i])
		if p.Who != was.Who || p.Stage != was.Stage {
			t.Fatalf("%d: %d is asked at %d, not %d at %d", i, p.Who, p.Stage, was.Who, was.Stage)
		}
		if p.Who != who {
			isRefused := n < 0 || n >= len(was.Options)
			if isRefused {
				n = -1
			} else if n = slices.Index(p.Options, was.Options[n]); n < 0 {
				break
			}
		}
		numbers = append(numbers, n)
		d, _ = duel.Decide(d, n)
	}
	return numbers
}

// P20.2, P0.5: duels by lot, and others in which the cards that a player never knew are other ones: that player sees the same.
func TestHiddenByLot(t *testing.T) {
	lot := chance{rand.New(rand.NewPCG(20, 5))}
	changed, same, others := 0, 0, 0
	for range 25 {
		poolText := ofCards(40, func(i int) string {
			for {
				if text := lot.card("k" + strconv.Itoa(i)); !strings.Contains(text, "mill") { // what is milled may come and go at once
					return text
				}
			}
		})
		first := 10 + lot.IntN(10)
		defs := append(lot.Perm(40)[:first], lot.Perm(40)[:10+lot.IntN(10)]...)
		d, _ := report.Load(poolText, decksOf(defs, first))
		c := lot.play(t, d, lot.yes(2))
		for who := range uint8(2) {
			defs, n := lot.otherwise(d, secret(c, who), first)
			text := decksOf(defs, first)
			x, wrong := report.Load(poolText, text)
			if wrong != "" {
				t.Fatalf("Load(%q, %q) = %q", poolText, text, wrong)
			}
			numbers := again(t, c, x, who)
			views := report.Sights(poolText, text, numbers, who)
			for i, v := range views {
				if !view.Same(v, c.views[who][i]) {
					t.Fatalf("%d: %d sees %+v\nnot %+v\n%s%s", i, who, v, c.views[who][i], poolText, text)
				}
			}
			for i, v := range report.Sights(poolText, text, numbers, 1-who) {
				if !view.Same(v, c.views[1-who][i]) {
					others++
				}
			}
			changed, same = changed+n, same+len(views)
		}
	}
	if changed < 200 || same < 2000 || others < 1000 {
		t.Errorf("%d cards are other ones, %d views the same, %d others", changed, same, others)
	}
}
