package move_test

import (
	"math"
	"slices"
	"strconv"
	"testing"

	"joust/api"
	"joust/duel"
	"joust/move"
)

// tells asks for all texts, of each option alone, too, and that each one leads back.
func tells(t *testing.T, what string, d api.Duel, want ...string) {
	t.Helper()
	if l := move.All(d); !slices.Equal(l, want) {
		t.Errorf("%s: All = %q\nnot %q", what, l, want)
	}
	for n, s := range want {
		if text, e := move.Text(d, n); text != s || e != api.OK {
			t.Errorf("%s: Text(%d) = %q, %d; not %q", what, n, text, e, s)
		}
		if i, e := move.Parse(d, s); i != n || e != api.OK {
			t.Errorf("%s: Parse(%q) = %d, %d; not %d", what, s, i, e, n)
		}
	}
	for _, n := range []int{-1, len(want), len(want) + 1, math.MinInt, math.MaxInt} {
		if s, e := move.Text(d, n); s != "" || e != api.ErrArg {
			t.Errorf("%s: Text(%d) = %q, %d", what, n, s, e)
		}
	}
	noParse(t, what, d, "", "nothing", "my hand 0")
}

// noParse asks that no option has these texts.
func noParse(t *testing.T, what string, d api.Duel, texts ...string) {
	t.Helper()
	for _, s := range texts {
		if n, e := move.Parse(d, s); n != 0 || e != api.ErrNone {
			t.Errorf("%s: Parse(%q) = %d, %d", what, s, n, e)
		}
	}
}

// untold asks that an option has no text, though there is one.
func untold(t *testing.T, what string, d api.Duel, n int) {
	t.Helper()
	if s, e := move.Text(d, n); s != "" || e != api.ErrArg {
		t.Errorf("%s: Text(%d) = %q, %d", what, n, s, e)
	}
	if l := move.All(d); len(l) != len(duel.Ask(d).Options) || l[n] != "" {
		t.Errorf("%s: All = %q", what, l)
	}
	noParse(t, what, d, "", " ", "-")
}

// P21.2: lots, by places of the deck.
func TestLots(t *testing.T) {
	d := begun(t, pool(t), make([]int, 11), []int{rain, rain})
	var want []string
	for n := range 11 {
		want = append(want, "lot "+strconv.Itoa(n))
	}
	for n := range want {
		tells(t, "lots", d, want[:11-n]...)
		d = decided(t, d, 0)
	}
	tells(t, "the other one's lots", d, "lot 0", "lot 1")
	noParse(t, "lots", d, "lot", "lot 2", "lot -1", "lot 00", "Lot 0", "lot 0 ", "lot my deck 0")
}

// P21.2: all that may be done in a main phase; it is the other one's turn then.
func TestIdle(t *testing.T) {
	d := laid(t)
	tells(t, "idle", d,
		"summon my hand 1 for my row 0", "set my hand 1 for my row 0", "summon my hand 1 for my row 1", "set my hand 1 for my row 1",
		"summon my hand 1 for my row 2", "set my hand 1 for my row 2", "summon my hand 1 for my row 3", "set my hand 1 for my row 3",
		"summon my hand 2", "set my hand 2",
		"lay my hand 0",
		"play my row 0 0", "play my back 1 0", "play my hand 0 0",
		"turn my row 0", "turn my row 1", "turn my row 2", "turn my row 3",
		"battle", "end")
	noParse(t, "idle", d, "summon my hand 1", "summon my hand 2 for my row 0", "set my hand 1 for", "summon their hand 1 for their row 0", "summon my hand 1 for my hand 2",
		"summon my hand 0", "lay my hand 1", "play my row 0", "play my row 0 1", "play my row 0 0 0", "play my back 0 0", "turn my row 4", "turn their row 0", "battle ", "Battle", "pass", "END", "end end")
	d.Second = true
	noParse(t, "the second main phase", d, "battle")
	d.Table.Player = 1
	put(t, &d, 10, api.Exile, 1, true, false)
	tells(t, "the other one's turn", d, "lay my hand 0", "play my row 1 0", "play my hand 0 0", "turn my row 0", "turn my row 1", "end")
}

// P21.2: the number of an effect is its place among the piece's own, of plays and of answers.
func TestEffects(t *testing.T) {
	kinds := pool(t)
	swift := kinds[imp].Effects[0]
	swift.Pick, swift.Steps[0].All = 0, true
	many := kinds[imp]
	many.Effects = append(slices.Repeat(kinds[lord].Effects, 6), swift, swift)
	kinds[imp] = many
	d := dealt(t, kinds, []int{imp, ogre, ogre, ogre, ogre, ogre}, []int{ogre, ogre, ogre, ogre, ogre, ogre})
	put(t, &d, 0, api.Row, 0, true, false)
	for _, s := range []string{"play my row 0 12", "play my row 0 13"} {
		if n, e := move.Parse(d, s); e != api.OK || duel.Ask(d).Options[n].Do != api.OpPlay {
			t.Errorf("Parse(%q) = %d, %d of %q", s, n, e, move.All(d))
		}
	}
	noParse(t, "effects", d, "play my row 0 0", "play my row 0 6", "play my row 0 11", "play my row 0 14", "card my row 0 12")
	d.Stage, d.Asked = api.AtAnswer, 0
	tells(t, "effects", d, "pass", "card my row 0 12", "card my row 0 13")
}

// P21.2: whom one attacks; nobody.
func TestBattle(t *testing.T) {
	d := laid(t)
	d.Stage = api.AtBattle
	tells(t, "battle", d, "attack my row 0 at their row 0", "attack my row 0 at their row 1", "attack my row 3 at their row 0", "attack my row 3 at their row 1", "end")
	noParse(t, "battle", d, "attack my row 0", "attack my row 0 at", "attack my row 0 direct", "attack my row 1 at their row 0", "attack my row 0 at my row 3", "attack their row 0 at my row 0", "battle", "pass")
	put(t, &d, 11, api.Grave, 1, true, false)
	put(t, &d, 18, api.Grave, 1, true, false)
	tells(t, "nobody to attack", d, "attack my row 0 direct", "attack my row 3 direct", "end")
	noParse(t, "nobody to attack", d, "attack my row 0 at their row 0", "attack my row 0 at direct", "attack my row 1 direct", "attack direct")
	d = laid(t)
	d.Stage, d.Table.Player = api.AtBattle, 1
	tells(t, "the other one's", d, "attack my row 0 at their row 0", "attack my row 0 at their row 1", "attack my row 0 at their row 2", "attack my row 0 at their row 3",
		"attack my row 1 at their row 0", "attack my row 1 at their row 1", "attack my row 1 at their row 2", "attack my row 1 at their row 3", "end")
}

// P21.2: answers, as each one says them.
func TestAnswers(t *testing.T) {
	d := laid(t)
	d.Stage, d.Asked = api.AtAnswer, 0
	tells(t, "answers", d, "pass", "card my row 0 0", "card my back 1 0")
	noParse(t, "answers", d, "end", "play my row 0 0", "card my row 0", "card their row 1 0", "card my row 0 1")
	d.Asked, d.Links = 1, []api.Link{{Who: 0, Piece: 6, Speed: 1}}
	tells(t, "the other one's", d, "pass", "card my row 1 0", "card my back 0 0")
}

// P21.2: picks in each zone in which something may be picked, of both sides, as the one who is asked says it.
func TestPicks(t *testing.T) {
	d := laid(t)
	d.Stage = api.AtPick
	own, others := []string{"pick my row 0", "pick my row 1", "pick my row 2", "pick my row 3"}, []string{"pick their row 0", "pick their row 1"}
	d.Choice.Ready = api.Ready{Who: 0, Piece: 15}
	tells(t, "a gust", d, slices.Concat(own, others)...)
	d.Choice.Picks = []int{14, 18}
	tells(t, "behind picks", d, "pick my row 0", "pick my row 2", "pick my row 3", "pick their row 1")
	d.Choice = api.Choice{Ready: api.Ready{Who: 1, Piece: 15}}
	tells(t, "the other one's gust", d, "pick my row 0", "pick my row 1", "pick their row 0", "pick their row 1", "pick their row 2", "pick their row 3")
	for _, c := range []struct {
		zone uint8
		want []string
	}{
		{api.Deck, []string{"pick my deck 0", "pick their deck 0"}},
		{api.Hand, []string{"pick my hand 0", "pick their hand 0", "pick their hand 1", "pick their hand 2"}},
		{api.Back, []string{"pick my back 0", "pick their back 0", "pick their back 1"}},
		{api.Grave, []string{"pick their grave 0", "pick their grave 1"}},
		{api.Exile, []string{"pick my exile 0"}},
		{api.Limbo, []string{"pick my limbo 0"}},
	} {
		d.Table.Kinds[gust].Effects[0].Sel = api.Sel{Side: api.Any, Zone: c.zone}
		d.Choice.Ready.Piece = 5
		d.Table.Pieces[5].Def = gust
		if c.zone == api.Grave { // the piece itself is not picked
			c.want = c.want[:1]
		}
		tells(t, "a zone", d, c.want...)
	}
}

// P21.2: what comes is put in order; what is let go; what is dropped.
func TestOrdersAndDrops(t *testing.T) {
	d := laid(t)
	d.Stage, d.Waits = api.AtOrder, []api.Ready{{Who: 1, Piece: 11, Effect: 1}, {Who: 0, Piece: 5, Effect: 1}, {Who: 0, Piece: 1, Effect: 1}, {Who: 0, Piece: 5, Effect: 255}}
	tells(t, "what may come", d, "card my grave 1 1", "card my row 0 1", "card my grave 1 255", "pass")
	for i := range d.Waits {
		d.Waits[i].Must = d.Waits[i].Who == 1
	}
	tells(t, "what must come", d, "card my row 1 1")
	noParse(t, "what must come", d, "pass", "card their row 0 1", "card my row 1 0")
	d.Stage = api.AtDrop
	tells(t, "drops", d, "drop my hand 0", "drop my hand 1", "drop my hand 2")
	d.Table.Player = 1
	tells(t, "the other one's drops", d, "drop my hand 0")
	noParse(t, "drops", d, "drop my hand 1", "drop their hand 0", "drop", "pass")
}

// nobodyAsked asks that nothing is told.
func nobodyAsked(t *testing.T, what string, d api.Duel) {
	t.Helper()
	for _, n := range []int{0, -1, 1, math.MinInt, math.MaxInt} {
		if s, e := move.Text(d, n); s != "" || e != api.ErrState {
			t.Errorf("%s: Text(%d) = %q, %d", what, n, s, e)
		}
	}
	if l := move.All(d); len(l) > 0 {
		t.Errorf("%s: All = %q", what, l)
	}
	for _, s := range []string{"", "pass", "end", "lot 0", "summon my hand 0"} {
		if n, e := move.Parse(d, s); n != 0 || e != api.ErrState {
			t.Errorf("%s: Parse(%q) = %d, %d", what, s, n, e)
		}
	}
}

// P21.2: of a duel that is over, whoever won, nothing is told.
func TestOver(t *testing.T) {
	d := laid(t)
	for winner := range uint8(3) {
		d.Stage, d.Reason, d.Winner = api.AtOver, api.ByLife, winner
		nobodyAsked(t, "over", d)
	}
	d = does(t, dealt(t, pool(t), make([]int, 5), make([]int, 5)), "end", "pass", "pass")
	if d.Stage != api.AtOver || d.Reason != api.ByDeck {
		t.Fatalf("stage %d", d.Stage)
	}
	nobodyAsked(t, "no card to draw", d)
}

// P21.2: a token that is nowhere can't be told, though it may be picked; the others are.
func TestNowhere(t *testing.T) {
	d := laid(t)
	d.Table.Kinds[gust].Effects[0].Sel = api.Sel{Side: api.Any, Zone: api.Nowhere}
	d.Stage, d.Choice.Ready = api.AtPick, api.Ready{Who: 0, Piece: 15}
	if l := duel.Ask(d).Options; len(l) != 2 || l[0].Piece != 20 || l[1].Piece != 19 {
		t.Fatalf("options %v", l)
	}
	untold(t, "nowhere", d, 0)
	untold(t, "nowhere", d, 1)
	d.Stage, d.Waits = api.AtOrder, []api.Ready{{Who: 0, Piece: 1, Effect: 1}, {Who: 0, Piece: 19}, {Who: 0, Piece: 5, Effect: 1}}
	untold(t, "nowhere", d, 1)
	if l := move.All(d); !slices.Equal(l, []string{"card my row 0 1", "", "card my grave 1 1", "pass"}) {
		t.Errorf("All = %q", l)
	}
	for s, want := range map[string]int{"card my row 0 1": 0, "card my grave 1 1": 2, "pass": 3} {
		if n, e := move.Parse(d, s); n != want || e != api.OK {
			t.Errorf("Parse(%q) = %d, %d", s, n, e)
		}
	}
}

// P21.2: a duel that Begin and Decide made comes to a pick of what is nowhere, if its kinds are such.
func TestNowhereInADuel(t *testing.T) {
	kinds := pool(t)
	kinds[rain].Effects = []api.Effect{{Steps: []api.Step{{Do: api.StToken, N: api.Expr{N: 100}}, {Do: api.StDestroy, All: true, Sel: api.Sel{Zone: api.Row}}}}}
	kinds[call].Effects = []api.Effect{{Pick: 1, Sel: api.Sel{Side: api.Any, Zone: api.Nowhere}, Steps: []api.Step{{Do: api.StHeal, N: api.Expr{N: 1}}}}}
	d := dealt(t, kinds, []int{rain, rain, call, ogre, ogre, ogre}, make([]int, 6))
	d = does(t, d, "play my hand 0 0", "pass", "pass", "play my hand 0 0", "pass", "pass", "play my hand 0 0")
	if l := duel.Ask(d).Options; d.Stage != api.AtPick || len(l) != 2 {
		t.Fatalf("stage %d: %v", d.Stage, l)
	}
	untold(t, "nowhere", d, 0)
	untold(t, "nowhere", d, 1)
	d = decided(t, d, 1)
	tells(t, "behind it", d, "pass")
}

// P21.2: a piece that is not there, or that nobody could tell.
func TestNotThere(t *testing.T) {
	d := laid(t)
	d.Stage = api.AtOrder
	for _, id := range []int{-1, -2, len(d.Table.Pieces), math.MinInt, math.MaxInt} {
		d.Waits = []api.Ready{{Who: 0, Piece: id}}
		untold(t, "no piece", d, 0)
		if n, e := move.Parse(d, "pass"); n != 1 || e != api.OK {
			t.Errorf("Parse(pass) = %d, %d", n, e)
		}
	}
	d.Waits = []api.Ready{{Who: 2, Piece: 1}}
	untold(t, "no player", d, 0)
	for i, change := range wrongTables() {
		d = laid(t)
		change(&d.Table)
		d.Stage, d.Waits = api.AtOrder, []api.Ready{{Who: 0, Piece: 1}, {Who: 1, Piece: 1}}
		untold(t, "no table: "+strconv.Itoa(i), d, 0)
	}
}

// P21.2: the first one of those that have a text, where a duel that was made otherwise tells one twice.
func TestTwice(t *testing.T) {
	d := laid(t)
	d.Stage, d.Waits = api.AtOrder, []api.Ready{{Who: 0, Piece: 5, Effect: 3}, {Who: 0, Piece: 1, Effect: 1}, {Who: 0, Piece: 1, Effect: 1}}
	if l := move.All(d); !slices.Equal(l, []string{"card my grave 1 3", "card my row 0 1", "card my row 0 1", "pass"}) {
		t.Fatalf("All = %q", l)
	}
	if n, e := move.Parse(d, "card my row 0 1"); n != 1 || e != api.OK {
		t.Errorf("Parse = %d, %d", n, e)
	}
	if s, e := move.Text(d, 2); s != "card my row 0 1" || e != api.OK {
		t.Errorf("Text = %q, %d", s, e)
	}
}
