package view_test

import (
	"reflect"
	"slices"
	"testing"

	"joust/api"
	"joust/board"
	"joust/check"
	"joust/duel"
	"joust/parse"
	"joust/view"
)

// The places of pool's kinds.
const (
	ogre = iota
	lord // its aura gives what it sees of its own side
	imp  // picks the other one's traps, if they are Up
	sage // counts hands, and bounces units
	seer // counts decks
	rain
	call // revives a unit
	gust // bounces whatever is in a Row
	gale // banishes what is in the other one's Back
	rush // makes a token
	pit
	stop
	bar
)

const poolText = `
unit ogre 4 1800 1000 { }
unit lord 6 2500 2000 { aura : boost 300 mine row unit ; must upon summon self : destroy theirs back trap ; }
unit imp 3 1000 1900 { swift picks 1 theirs back trap : destroy ; when upon destroy any : token mine 400 ; }
unit sage 2 500 500 { act needs (< 3 count theirs hand all) picks 1 any row unit : bounce ; if upon destroy self picks 1 any row all : bounce ; }
unit seer 1 0 100 { swift needs count mine deck all needs (not count theirs back counter) : damage theirs 100 ; }
spell rain { play drops 1 : damage theirs 500 ; destroy theirs row all ; }
spell call { play picks 1 any grave unit : revive ; }
quick gust { play picks 1 any row all : bounce ; }
quick gale { play picks 1 theirs back all : banish ; }
trap rush { play upon summon any : token theirs 300 ; token mine 200 ; }
trap pit { play upon summon theirs picks 1 theirs row unit : destroy ; draw mine 1 ; }
counter stop { play upon link theirs : negate ; }
counter bar { play upon try theirs : negate ; }
`

// pool is kinds that may be played.
func pool(t *testing.T) []api.Card {
	t.Helper()
	kinds, fault := parse.Pool(poolText)
	if i, e := check.Pool(kinds); fault.E != api.OK || e != api.OK {
		t.Fatalf("no pool: %v, %d: %d", fault, i, e)
	}
	return kinds
}

// begun is a duel of these kinds behind the lots, which leave the decks as they stand: each has the first five cards in hand.
func begun(t *testing.T, kinds []api.Card, decks [2][]int) api.Duel {
	t.Helper()
	d, e := duel.Begin(kinds, decks)
	if e != api.OK {
		t.Fatalf("Begin: %d", e)
	}
	for range d.Table.Pieces {
		d = decided(t, d, 0)
	}
	return d
}

// decided is a duel behind an option.
func decided(t *testing.T, d api.Duel, n int) api.Duel {
	t.Helper()
	d, e := duel.Decide(d, n)
	if e != api.OK {
		t.Fatalf("Decide(%d): %d", n, e)
	}
	return d
}

// does is a duel behind options, one by one.
func does(t *testing.T, d api.Duel, l ...api.Option) api.Duel {
	t.Helper()
	for _, o := range l {
		n := slices.Index(duel.Ask(d).Options, o)
		if n < 0 {
			t.Fatalf("no option %v of %v", o, duel.Ask(d))
		}
		d = decided(t, d, n)
	}
	return d
}

// put lays a piece somewhere.
func put(t *testing.T, d *api.Duel, id int, zone, who uint8, up, low bool) {
	t.Helper()
	x, e := board.Put(d.Table, id, zone, who, up, low)
	if e != api.OK {
		t.Fatalf("Put(%d): %d", id, e)
	}
	d.Table = x
}

// token lays a token into a Row.
func token(t *testing.T, d *api.Duel, who uint8, attack int) {
	t.Helper()
	x, _, e := board.Token(d.Table, who, attack)
	if e != api.OK {
		t.Fatalf("Token: %d", e)
	}
	d.Table = x
}

// laid is a duel in which something lies in each zone. By numbers 0 has a lord in Row, an ogre in Row, a seer as a guard, face down; a stop face down and a rush Up in Back; an imp in the grave, a rain in hand, a sage and a gale in the deck; 1 has a lord in Limbo, an ogre in Row face down, a pit in Back, a call in exile, an ogre in 0's Row, a gust in hand, a rain in the deck; a token of 1 in Row, one of 0 nowhere.
func laid(t *testing.T) api.Duel {
	t.Helper()
	d, e := duel.Begin(pool(t), [2][]int{{lord, ogre, seer, stop, rush, imp, rain, sage, gale}, {lord, ogre, pit, call, ogre, gust, rain}})
	if e != api.OK {
		t.Fatalf("Begin: %d", e)
	}
	put(t, &d, 1, api.Row, 0, true, false)
	put(t, &d, 0, api.Row, 0, true, false)
	put(t, &d, 2, api.Row, 0, false, true)
	put(t, &d, 4, api.Back, 0, true, false)
	put(t, &d, 3, api.Back, 0, false, false)
	put(t, &d, 5, api.Grave, 0, true, false)
	put(t, &d, 6, api.Hand, 0, false, false)
	put(t, &d, 9, api.Limbo, 1, true, false)
	token(t, &d, 1, 400)
	put(t, &d, 10, api.Row, 1, false, true)
	put(t, &d, 11, api.Back, 1, false, false)
	put(t, &d, 12, api.Exile, 1, true, false)
	put(t, &d, 13, api.Row, 0, true, true)
	put(t, &d, 14, api.Hand, 1, false, false)
	token(t, &d, 0, 700)
	put(t, &d, 17, api.Exile, 0, true, false)
	d.Stage, d.Lots = api.AtIdle, 0
	d.Table.Turn, d.Table.Life = 4, [2]int{7000, 300}
	d.Table.Pieces[1].Boost = 50
	return d
}

// shown is the view of laid that both would have, if all were known, without options.
func shown() api.View {
	return api.View{Life: [2]int{7000, 300}, Player: 0, Turn: 4, Stage: api.AtIdle, Asked: 0, Pieces: []api.Seen{
		{Zone: api.Hand, Known: true, Def: rain},
		{Zone: api.Row, Known: true, Def: ogre, Attack: 2150, Up: true},
		{Zone: api.Row, At: 1, Known: true, Def: lord, Attack: 2800, Up: true},
		{Zone: api.Row, At: 2, Known: true, Def: seer, Low: true},
		{Zone: api.Row, At: 3, Owner: 1, Known: true, Def: ogre, Attack: 2100, Up: true, Low: true},
		{Zone: api.Back, Known: true, Def: rush, Up: true},
		{Zone: api.Back, At: 1, Known: true, Def: stop},
		{Zone: api.Grave, Known: true, Def: imp, Attack: 1000, Up: true},
		{Zone: api.Hand, Owner: 1, Has: 1, Known: true, Def: gust},
		{Zone: api.Row, Owner: 1, Has: 1, Known: true, Def: -1, Attack: 400, Up: true},
		{Zone: api.Row, At: 1, Owner: 1, Has: 1, Known: true, Def: ogre, Attack: 1800, Low: true},
		{Zone: api.Back, Owner: 1, Has: 1, Known: true, Def: pit},
		{Zone: api.Exile, Owner: 1, Has: 1, Known: true, Def: call, Up: true},
		{Zone: api.Limbo, Owner: 1, Has: 1, Known: true, Def: lord, Attack: 2500, Up: true},
		{Zone: api.Deck, Def: -1},
		{Zone: api.Deck, At: 1, Def: -1},
		{Zone: api.Deck, Owner: 1, Has: 1, Def: -1},
	}}
}

// hide leaves of lines of a view only what those who don't know the pieces see.
func hide(v *api.View, lines ...int) {
	for _, i := range lines {
		s := &v.Pieces[i]
		s.Known, s.Def, s.Attack = false, -1, 0
	}
}

// same asks for a view.
func same(t *testing.T, what string, is, want api.View) {
	t.Helper()
	if !view.Same(is, want) || !slices.Equal(is.Pieces, want.Pieces) || !slices.Equal(is.Options, want.Options) {
		t.Errorf("%s: the view is\n%+v\nnot\n%+v", what, is, want)
	}
}

// P18.1: all lines, in order, and each of their fields, as the one and the other player sees them.
func TestLines(t *testing.T) {
	d := laid(t)
	mine, theirs := shown(), shown()
	hide(&mine, 8, 10, 11)
	hide(&theirs, 0, 3, 6)
	mine.Options = view.Of(d, 0).Options
	same(t, "0's", view.Of(d, 0), mine)
	same(t, "1's", view.Of(d, 1), theirs)
	if len(mine.Options) == 0 {
		t.Error("no options")
	}
}

// P18.1: a unit that the other one owns is known, face down, to the one who has it alone.
func TestOthersUnit(t *testing.T) {
	d := laid(t)
	d.Table.Pieces[13].Up = false
	if mine, theirs := view.Of(d, 0).Pieces[4], view.Of(d, 1).Pieces[4]; mine != (api.Seen{Zone: api.Row, At: 3, Owner: 1, Known: true, Def: ogre, Attack: 1800, Low: true}) || theirs != (api.Seen{Zone: api.Row, At: 3, Owner: 1, Def: -1, Low: true}) {
		t.Errorf("%+v, %+v", mine, theirs)
	}
}

// P18.1: of what is not known Up and Low are told, but not of decks.
func TestUpAndLow(t *testing.T) {
	d := laid(t)
	for i := range 4 {
		up, low := i&1 == 1, i>>1 == 1
		for id := range d.Table.Pieces {
			d.Table.Pieces[id].Up, d.Table.Pieces[id].Low = up, low
		}
		for who := range uint8(2) {
			for line, s := range view.Of(d, who).Pieces {
				told := s.Zone != api.Deck
				if s.Up != (up && told) || s.Low != (low && told) {
					t.Errorf("%d: %d sees %d as %+v", i, who, line, s)
				}
				if !told && s.Known || !up && s.Zone >= api.Grave && s.Known {
					t.Errorf("%d: %d knows %d: %+v", i, who, line, s)
				}
			}
		}
	}
}

// P18.1: lines are by places, wherever pieces stand among all.
func TestPlaces(t *testing.T) {
	d := begun(t, pool(t), [2][]int{make([]int, 12), make([]int, 11)})
	for _, ids := range [][]int{{2, 0, 1}, {14, 12, 13}} {
		for _, id := range ids {
			put(t, &d, id, api.Row, uint8(id/12), true, false)
		}
	}
	for _, id := range []int{4, 3, 16, 15} {
		put(t, &d, id, api.Grave, 0, true, false)
	}
	for _, id := range []int{7, 5, 20, 17} {
		put(t, &d, id, api.Deck, 0, false, false)
	}
	var ids []int
	for i, p := range d.Table.Pieces {
		d.Table.Pieces[i].Attack, d.Table.Pieces[i].Up = i, true
		if p.Zone != api.Deck {
			ids = append(ids, i)
		}
	}
	var told, places []int
	for _, s := range view.Of(d, 0).Pieces {
		if s.Known {
			told = append(told, s.Attack)
		}
		places = append(places, 100*int(s.Has)+10*int(s.Zone)+s.At)
	}
	if !slices.Equal(told, []int{2, 0, 1, 4, 3, 14, 12, 13, 16, 15}) || len(ids) != 10 {
		t.Errorf("lines of %v", told)
	}
	if !slices.Equal(places, []int{20, 21, 22, 40, 41, 120, 121, 122, 140, 141, 0, 1, 2, 3, 4, 5, 6, 100, 101, 102, 103, 104, 105}) {
		t.Errorf("places %v", places)
	}
}

// P18.1: the chapter's example.
func TestExample(t *testing.T) {
	d := begun(t, []api.Card{{Name: "ogre", Level: 4, Attack: 1800}}, [2][]int{make([]int, 6), make([]int, 6)})
	known := func(v api.View) (n int) {
		for _, s := range v.Pieces {
			if s.Known {
				n++
			}
		}
		return n
	}
	a, b := view.Of(d, 0), view.Of(d, 1)
	if len(a.Pieces) != 12 || known(a) != 5 || known(b) != 5 || len(b.Options) != 0 {
		t.Errorf("Of = %+v, %+v", a, b)
	}
}

// nothing asks for a view without anything.
func nothing(t *testing.T, what string, v api.View) {
	t.Helper()
	if len(v.Pieces) != 0 || len(v.Options) != 0 {
		t.Errorf("%s: %+v", what, v)
	}
	if v.Pieces, v.Options = nil, nil; !reflect.DeepEqual(v, api.View{}) {
		t.Errorf("%s: %+v", what, v)
	}
}

// P18.1: no player, and nobody of a table that may not be, sees anything.
func TestNothing(t *testing.T) {
	d := laid(t)
	for who := 2; who < 256; who++ {
		nothing(t, "no player", view.Of(d, uint8(who)))
	}
	for i, change := range []func(x *api.Table){
		func(x *api.Table) { *x = api.Table{} },
		func(x *api.Table) { x.Turn = 0 },
		func(x *api.Table) { x.Player = 2 },
		func(x *api.Table) { x.Life[1] = -1 },
		func(x *api.Table) { x.Life[0] = api.MaxLife + 1 },
		func(x *api.Table) { x.Kinds = nil },
		func(x *api.Table) { x.Pieces[1].At = 1 },
		func(x *api.Table) { x.Pieces[6].At = 3 },
		func(x *api.Table) { x.Pieces[14].Has = 0 },
		func(x *api.Table) { x.Pieces[0].Zone = 8 },
		func(x *api.Table) { x.Pieces = append(x.Pieces, make([]api.Piece, api.MaxCards)...) },
	} {
		y := duel.Copy(d)
		change(&y.Table)
		if board.May(y.Table) {
			t.Fatalf("%d: the table may be", i)
		}
		for who := range uint8(3) {
			nothing(t, "a table that may not be", view.Of(y, who))
		}
	}
}
