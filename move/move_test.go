package move_test

import (
	"testing"

	"joust/api"
	"joust/board"
	"joust/check"
	"joust/duel"
	"joust/move"
	"joust/parse"
)

// The places of pool's kinds.
const (
	ogre = iota
	lord // of level 6: one is given up for it
	imp  // its swift picks one in a Row, which it bounces; when something is destroyed it makes a token
	ghost
	rain
	call // revives a unit
	gust // bounces whatever is in a Row
	gale // banishes what is in the other one's Back
	rush // makes tokens
	stop
	bar
)

const poolText = `
unit ogre 4 1800 1000 { }
unit lord 6 2500 2000 { must upon summon self : destroy theirs back all ; if upon attack self : draw mine 1 ; }
unit imp 3 1000 1900 { swift picks 1 any row unit : bounce ; when upon destroy any : token mine 400 ; }
unit ghost 2 500 500 { act picks 1 any row unit : destroy ; if upon destroy self picks 1 any row all : bounce ; must upon destroy self : damage any 100 ; }
spell rain { play drops 1 : damage theirs 500 ; destroy theirs row all ; }
spell call { play picks 1 any grave unit : revive ; }
quick gust { play picks 1 any row all : bounce ; }
quick gale { play picks 1 theirs back all : banish ; }
trap rush { play upon summon any : token theirs 300 ; token mine 200 ; }
counter stop { play upon link theirs : negate ; }
counter bar { play upon try theirs : negate ; }
`

// pool is kinds that may be played.
func pool(t *testing.T) []api.Card {
	t.Helper()
	kinds, fault := parse.Pool(poolText)
	if i, e := check.Pool(kinds); fault.E != api.OK || e != api.OK {
		t.Fatalf("no pool: %v, %d: %d", fault, i, e)
	}
	return kinds
}

// begun is a duel of these kinds with these decks, ahead of the lots.
func begun(t *testing.T, kinds []api.Card, own, others []int) api.Duel {
	t.Helper()
	d, e := duel.Begin(kinds, [2][]int{own, others})
	if e != api.OK {
		t.Fatalf("Begin: %d", e)
	}
	return d
}

// decided is a duel behind an option.
func decided(t *testing.T, d api.Duel, n int) api.Duel {
	t.Helper()
	d, e := duel.Decide(d, n)
	if e != api.OK {
		t.Fatalf("Decide(%d): %d", n, e)
	}
	return d
}

// dealt is a duel behind the lots, which leave the decks as they stand: each has the first five cards in hand.
func dealt(t *testing.T, kinds []api.Card, own, others []int) api.Duel {
	t.Helper()
	d := begun(t, kinds, own, others)
	for range d.Table.Pieces {
		d = decided(t, d, 0)
	}
	return d
}

// does is a duel behind options that are told by their texts.
func does(t *testing.T, d api.Duel, texts ...string) api.Duel {
	t.Helper()
	for _, s := range texts {
		n, e := move.Parse(d, s)
		if e != api.OK {
			t.Fatalf("Parse(%q) = %d of %q", s, e, move.All(d))
		}
		d = decided(t, d, n)
	}
	return d
}

// put lays a piece somewhere, since an earlier turn.
func put(t *testing.T, d *api.Duel, id int, zone, who uint8, up, low bool) {
	t.Helper()
	x, e := board.Put(d.Table, id, zone, who, up, low)
	if e != api.OK {
		t.Fatalf("Put(%d): %d", id, e)
	}
	x.Pieces[id].Since = 0
	d.Table = x
}

// token lays a token into a Row.
func token(t *testing.T, d *api.Duel, who uint8) {
	t.Helper()
	x, _, e := board.Token(d.Table, who, 400)
	if e != api.OK {
		t.Fatalf("Token: %d", e)
	}
	d.Table = x
}

// laid is a duel in 0's main phase, in which something lies in each zone; lies tells where.
func laid(t *testing.T) api.Duel {
	t.Helper()
	d := begun(t, pool(t), []int{lord, imp, ogre, gale, rush, ghost, rain, lord, ogre, ogre}, []int{ogre, imp, stop, ghost, ogre, gust, rain})
	put(t, &d, 1, api.Row, 0, true, false)
	put(t, &d, 8, api.Row, 0, false, true)
	put(t, &d, 2, api.Row, 0, false, true)
	put(t, &d, 8, api.Grave, 0, true, false)
	put(t, &d, 14, api.Row, 0, true, true)
	token(t, &d, 0)
	put(t, &d, 4, api.Back, 0, true, false)
	put(t, &d, 3, api.Back, 0, false, false)
	put(t, &d, 5, api.Grave, 0, true, false)
	put(t, &d, 6, api.Hand, 0, false, false)
	put(t, &d, 7, api.Hand, 0, false, false)
	put(t, &d, 9, api.Hand, 0, false, false)
	token(t, &d, 1)
	put(t, &d, 10, api.Limbo, 1, true, false)
	put(t, &d, 11, api.Row, 1, true, false)
	put(t, &d, 12, api.Back, 1, false, false)
	put(t, &d, 13, api.Exile, 1, true, false)
	put(t, &d, 15, api.Hand, 1, false, false)
	token(t, &d, 1)
	token(t, &d, 0)
	put(t, &d, 19, api.Grave, 1, true, false)
	put(t, &d, 20, api.Grave, 0, true, false)
	d.Stage, d.Lots, d.Table.Turn = api.AtIdle, 0, 4
	return d
}

// lies tells where each piece of laid is, as 0 says it, and as 1 does; nowhere is -.
func lies() [][2]string {
	return [][2]string{
		{"my deck 0", "their deck 0"},
		{"my row 0", "their row 0"},
		{"my row 2", "their row 2"},
		{"my back 1", "their back 1"},
		{"my back 0", "their back 0"},
		{"my grave 1", "their grave 1"},
		{"my hand 0", "their hand 0"},
		{"my hand 1", "their hand 1"},
		{"my grave 0", "their grave 0"},
		{"my hand 2", "their hand 2"},
		{"their limbo 0", "my limbo 0"},
		{"their row 1", "my row 1"},
		{"their back 0", "my back 0"},
		{"their exile 0", "my exile 0"},
		{"my row 1", "their row 1"},
		{"their hand 0", "my hand 0"},
		{"their deck 0", "my deck 0"},
		{"my row 3", "their row 3"},
		{"their row 0", "my row 0"},
		{"-", "-"},
		{"-", "-"},
	}
}

// P21.1, P21.2: the chapter's examples.
func TestExamples(t *testing.T) {
	d := dealt(t, []api.Card{{Name: "ogre", Level: 4, Attack: 1800}}, make([]int, 6), make([]int, 6))
	for n, want := range map[int]string{0: "summon my hand 0", 1: "set my hand 0"} {
		if s, e := move.Text(d, n); s != want || e != api.OK {
			t.Errorf("Text(%d) = %q, %d", n, s, e)
		}
	}
	if s, e := move.Text(d, 99); s != "" || e != api.ErrArg {
		t.Errorf("Text(99) = %q, %d", s, e)
	}
	if n, e := move.Parse(d, "end"); n != len(duel.Ask(d).Options)-1 || e != api.OK {
		t.Errorf("Parse(end) = %d, %d", n, e)
	}
	if s, ok := move.Where(d.Table, 1, board.In(d.Table, 0, api.Hand)[0]); s != "their hand 0" || !ok {
		t.Errorf("Where = %q, %t", s, ok)
	}
}
