package know_test

import (
	"math"
	"reflect"
	"slices"
	"testing"

	"joust/api"
	"joust/board"
	"joust/check"
	"joust/duel"
	"joust/know"
	"joust/parse"
	"joust/view"
)

// The places of pool's kinds: units stand among others, so that their order is not that of classes.
const (
	rain = iota
	ogre
	stop
	imp
	gust
)

const poolText = `
spell rain { play : damage theirs 500 ; }
unit ogre 4 1800 1000 { }
counter stop { play upon link theirs : negate ; }
unit imp 3 1000 1900 { when upon destroy any : token mine 400 ; }
quick gust { play picks 1 any row all : bounce ; }
`

func pool(t *testing.T, text string) []api.Card {
	t.Helper()
	kinds, fault := parse.Pool(text)
	if i, e := check.Pool(kinds); fault.E != api.OK || e != api.OK {
		t.Fatalf("no pool: %v, %d: %d", fault, i, e)
	}
	return kinds
}

// begun is a duel of these decks, ahead of the lots.
func begun(t *testing.T, kinds []api.Card, decks ...[]int) api.Duel {
	t.Helper()
	d, e := duel.Begin(kinds, [2][]int{decks[0], decks[1]})
	if e != api.OK {
		t.Fatalf("Begin: %d", e)
	}
	return d
}

// put lays a piece somewhere.
func put(t *testing.T, d *api.Duel, id int, zone, who uint8, up bool) {
	t.Helper()
	x, e := board.Put(d.Table, id, zone, who, up, zone == api.Row && !up)
	if e != api.OK {
		t.Fatalf("Put(%d): %d", id, e)
	}
	d.Table = x
}

// token lays a token into a Row.
func token(t *testing.T, d *api.Duel, who uint8) int {
	t.Helper()
	x, id, e := board.Token(d.Table, who, 400)
	if e != api.OK {
		t.Fatalf("Token: %d", e)
	}
	d.Table = x
	return id
}

// laid is a duel with something in each zone. By numbers 0 has an ogre Up and an imp face down in Row, a stop face down and a rain Up in Back, an ogre in the grave, a rain in hand, an imp and a gust in the deck, and an imp face down in 1's Row; 1 has an ogre face down in Row, a gust in Back, face down, an imp in exile, a rain and an ogre in hand, a stop, an ogre and a gust in the deck; a token is in 1's Row, one Nowhere.
func laid(t *testing.T) api.Duel {
	t.Helper()
	d := begun(t, pool(t, poolText), []int{ogre, imp, stop, rain, ogre, rain, imp, gust, imp}, []int{ogre, gust, imp, rain, ogre, stop, ogre, gust})
	put(t, &d, 0, api.Row, 0, true)
	put(t, &d, 1, api.Row, 0, false)
	put(t, &d, 2, api.Back, 0, false)
	put(t, &d, 3, api.Back, 0, true)
	put(t, &d, 4, api.Grave, 0, true)
	put(t, &d, 5, api.Hand, 0, false)
	put(t, &d, 8, api.Row, 1, false)
	put(t, &d, 9, api.Row, 1, false)
	put(t, &d, 10, api.Back, 1, false)
	put(t, &d, 11, api.Exile, 1, true)
	put(t, &d, 12, api.Hand, 1, false)
	put(t, &d, 13, api.Hand, 1, false)
	token(t, &d, 1)
	put(t, &d, token(t, &d, 0), api.Grave, 0, true)
	return d
}

// The pieces of laid that 0, and 1, doesn't know.
func hiddenOfLaid() [2][]int {
	return [2][]int{{6, 7, 8, 9, 10, 12, 13, 14, 15, 16}, {1, 2, 5, 6, 7, 14, 15, 16}}
}

// defs are the kinds of some pieces.
func defs(d api.Duel, ids []int) (l []int) {
	for _, id := range ids {
		l = append(l, d.Table.Pieces[id].Def)
	}
	return l
}

func same(t *testing.T, what string, is, want []int) {
	t.Helper()
	if !slices.Equal(is, want) {
		t.Errorf("%s: %v, not %v", what, is, want)
	}
}

// deals is the duel with an arrangement that there is.
func deals(t *testing.T, d api.Duel, who uint8, n uint64) api.Duel {
	t.Helper()
	x, e := know.Deal(d, who, n)
	if e != api.OK {
		t.Fatalf("Deal(%d): %d", n, e)
	}
	return x
}

// refuses asks for an error of Deal.
func refuses(t *testing.T, d api.Duel, who uint8, n uint64, want api.Errno) {
	t.Helper()
	if x, e := know.Deal(d, who, n); e != want || !reflect.DeepEqual(x, api.Duel{}) {
		t.Errorf("Deal(%d) = %+v, %d, not %d", n, x, e, want)
	}
}

// ranks asks for which arrangement a duel has.
func ranks(t *testing.T, d api.Duel, who uint8, want uint64, e api.Errno) {
	t.Helper()
	if n, is := know.Rank(d, who); n != want || is != e {
		t.Errorf("Rank = %d, %d, not %d, %d", n, is, want, e)
	}
}

// counts asks for how many arrangements there are.
func counts(t *testing.T, d api.Duel, who uint8, want uint64, ok bool) {
	t.Helper()
	if n, is := know.Ways(d, who); n != want || is != ok {
		t.Errorf("Ways = %d, %v, not %d, %v", n, is, want, ok)
	}
}

// chance asks for one of a hidden piece.
func chance(t *testing.T, d api.Duel, who uint8, id, kind int, num, den uint64) {
	t.Helper()
	if o, is := know.Chance(d, who, id, kind); !is || o != (api.Odds{Num: num, Den: den}) {
		t.Errorf("Chance(%d, %d) = %v, %v, not %d of %d", id, kind, o, is, num, den)
	}
}

// five is the duel of the chapter's example: 0 has all five cards in hand, 1 all in the deck.
func five(t *testing.T, deck ...int) api.Duel {
	t.Helper()
	kinds := pool(t, "unit ogre 4 1800 0 { } spell rain { play: damage theirs 500; }")
	d := begun(t, kinds, []int{0, 0, 0, 1, 1}, deck)
	for id := range 5 {
		put(t, &d, id, api.Hand, 0, false)
	}
	return d
}

// P26.1 to P26.3: the chapter's example.
func TestExample(t *testing.T) {
	d, ids := five(t, 1, 0, 1, 0, 0), []int{5, 6, 7, 8, 9}
	counts(t, d, 0, 10, true)
	same(t, "Deal(0)", defs(deals(t, d, 0, 0), ids), []int{0, 0, 0, 1, 1})
	same(t, "Deal(9)", defs(deals(t, d, 0, 9), ids), []int{1, 1, 0, 0, 0})
	refuses(t, d, 0, 10, api.ErrNone)
	chance(t, d, 0, 5, 1, 2, 5)
	chance(t, d, 0, 5, 0, 3, 5)
	ranks(t, d, 0, 8, api.OK)
}

// P26.1: what is hidden of each zone, of whoever owns it, in order.
func TestHidden(t *testing.T) {
	d := laid(t)
	for who, want := range hiddenOfLaid() {
		same(t, "Hidden", know.Hidden(d, uint8(who)), want)
	}
	put(t, &d, 15, api.Limbo, 1, true)
	same(t, "Hidden, with a unit in Limbo", know.Hidden(d, 0), []int{6, 7, 8, 9, 10, 12, 13, 14, 16})
	for id := range d.Table.Pieces {
		d.Table.Pieces[id].Up = false
	}
	d.Table.Pieces[16].Up = true // in the deck: that counts for nothing
	same(t, "Hidden, all face down", know.Hidden(d, 0), []int{4, 6, 7, 8, 9, 10, 11, 12, 13, 14, 15, 16})
	same(t, "Hidden, all face down", know.Hidden(d, 1), []int{0, 1, 2, 3, 4, 5, 6, 7, 11, 14, 15, 16})
}

// P26.1: pieces of 0 stand ahead of those of 1, whichever numbers they have.
func TestHiddenByOwner(t *testing.T) {
	d := five(t, 0, 1, 0, 0, 1)
	for _, id := range []int{0, 3, 6, 8} {
		d.Table.Pieces[id].Owner = 1 - d.Table.Pieces[id].Owner
		d.Table.Pieces[id].Has = d.Table.Pieces[id].Owner
		d.Table.Pieces[id].Zone = api.Deck
	}
	for owner := range uint8(2) {
		at := map[uint8]int{}
		for id := range d.Table.Pieces {
			if p := &d.Table.Pieces[id]; p.Owner == owner {
				p.At = at[p.Zone]
				at[p.Zone]++
			}
		}
	}
	if !board.May(d.Table) {
		t.Fatal("the table may not be")
	}
	same(t, "Hidden", know.Hidden(d, 0), []int{6, 8, 0, 3, 5, 7, 9})
	same(t, "Hidden", know.Hidden(d, 1), []int{1, 2, 4, 6, 8, 0, 3, 5, 7, 9})
	r := know.Rest(d, 0)
	same(t, "Rest of 0", r[0], []int{1, 1})
	same(t, "Rest of 1", r[1], []int{3, 2})
	counts(t, d, 0, 2*10, true)
	// 6 and 8 are a rain and an ogre, as the greater one of two; 0 3 5 7 9 are 0 1 0 0 1, the fourth one of ten
	ranks(t, d, 0, 10+3, api.OK)
}

// P26.1: how many there are of each kind, of pieces that are hidden alone.
func TestRest(t *testing.T) {
	d := laid(t)
	for who, want := range [2][2][]int{
		{{0, 0, 0, 2, 1}, {1, 3, 1, 0, 2}},
		{{1, 0, 1, 2, 1}, {0, 1, 1, 0, 1}},
	} {
		r := know.Rest(d, uint8(who))
		same(t, "Rest of 0", r[0], want[0])
		same(t, "Rest of 1", r[1], want[1])
	}
}

// P26.1: how many ways: units in Row, none in Back, of each owner its own.
func TestWays(t *testing.T) {
	d := laid(t)
	// of 0's imp, imp, gust an imp is in 1's Row: 2; of 1's an ogre in Row, one of three others' kinds in Back (4: 1 1 2), 2 ogres and 3 others in hand and deck (6 places, of which 2 are units': 10)
	counts(t, d, 0, 2*(10*(4*3)), true)
	// of 0's an imp is in Row, one of rain, stop, gust in Back, an imp and two others are on 3 places: 3 by 6; of 1's all three are in the deck
	counts(t, d, 1, 3*6*6, true)
}

// P26.1, P26.2: where all is known there is one arrangement.
func TestNothingHidden(t *testing.T) {
	d := five(t, 0, 1, 0, 0, 1)
	for id := 5; id < 10; id++ {
		put(t, &d, id, api.Grave, 1, true)
	}
	if l := know.Hidden(d, 0); len(l) != 0 {
		t.Errorf("Hidden = %v", l)
	}
	for _, l := range know.Rest(d, 0) {
		same(t, "Rest", l, []int{0, 0})
	}
	counts(t, d, 0, 1, true)
	ranks(t, d, 0, 0, api.OK)
	if x := deals(t, d, 0, 0); !duel.Same(x, d) {
		t.Errorf("Deal = %+v", x)
	}
	refuses(t, d, 0, 1, api.ErrNone)
	refuses(t, d, 0, math.MaxUint64, api.ErrNone)
	empty := api.Duel{Table: api.Table{Turn: 1}}
	counts(t, empty, 1, 1, true)
	ranks(t, empty, 1, 0, api.OK)
	if x := deals(t, empty, 1, 0); !duel.Same(x, empty) {
		t.Errorf("Deal = %+v", x)
	}
	if r := know.Rest(empty, 0); len(r[0]) != 0 || len(r[1]) != 0 {
		t.Errorf("Rest = %v", r)
	}
}

// P26.2: what is dealt has its attack and guard as printed; all else is as it was.
func TestDealt(t *testing.T) {
	d := laid(t)
	d.Links = []api.Link{{Who: 1, Piece: 3, Picks: []int{4}}}
	d.Recent, d.Waits, d.Dies, d.Choice.Picks = []api.Event{{Ev: 2}}, []api.Ready{{Piece: 8}}, []int{9}, []int{1, 2}
	d.Stage, d.Asked, d.Attacker = api.AtPick, 1, 9
	for id := range d.Table.Pieces {
		p := &d.Table.Pieces[id]
		p.Attack, p.Guard, p.Boost, p.Used, p.Since, p.Struck, p.Turned, p.Low = 7, 8, id, 3, 2, true, true, true
	}
	for n := range uint64(240) {
		x, want := deals(t, d, 0, n), duel.Copy(d)
		for _, id := range hiddenOfLaid()[0] {
			p := &want.Table.Pieces[id]
			p.Def = x.Table.Pieces[id].Def
			p.Attack, p.Guard = d.Table.Kinds[p.Def].Attack, d.Table.Kinds[p.Def].Guard
		}
		if !duel.Same(x, want) {
			t.Fatalf("Deal(%d) = %+v\nnot %+v", n, x, want)
		}
	}
}

// P26.2: all of them, in order: the first piece that has other kinds tells, the lesser kind first.
func TestOrder(t *testing.T) {
	d := laid(t)
	for who, count := range []uint64{240, 108} {
		who, ids := uint8(who), hiddenOfLaid()[who]
		var last []int
		for n := range count {
			x := deals(t, d, who, n)
			if l := defs(x, ids); slices.Compare(last, l) >= 0 {
				t.Errorf("Deal(%d): %v behind %v", n, l, last)
			} else {
				last = l
			}
			ranks(t, x, who, n, api.OK)
		}
		refuses(t, d, who, count, api.ErrNone)
		refuses(t, d, who, 1<<62, api.ErrNone)
		refuses(t, d, who, math.MaxUint64, api.ErrNone)
	}
	same(t, "the first one", defs(deals(t, d, 0, 0), hiddenOfLaid()[0]), []int{imp, gust, imp, ogre, rain, ogre, ogre, stop, gust, gust})
	same(t, "the last one", defs(deals(t, d, 0, 239), hiddenOfLaid()[0]), []int{gust, imp, imp, ogre, gust, gust, stop, ogre, ogre, rain})
}

// P26.3: by hand, with units in Row, none in Back.
func TestChance(t *testing.T) {
	d := laid(t)
	chance(t, d, 0, 8, imp, 1, 1) // in Row
	chance(t, d, 0, 8, gust, 0, 1)
	chance(t, d, 0, 8, ogre, 0, 1) // none of 0 is hidden
	chance(t, d, 0, 6, imp, 1, 2)
	chance(t, d, 0, 7, gust, 1, 2)
	chance(t, d, 0, 7, rain, 0, 1)
	chance(t, d, 0, 9, ogre, 1, 1)
	chance(t, d, 0, 9, rain, 0, 1)
	chance(t, d, 0, 10, gust, 1, 2) // in Back: one of four
	chance(t, d, 0, 10, rain, 1, 4)
	chance(t, d, 0, 10, ogre, 0, 1)
	for _, id := range []int{12, 13, 14, 15, 16} { // 2 of 5 get a unit, 3 one of four others
		chance(t, d, 0, id, ogre, 2, 5)
		chance(t, d, 0, id, imp, 0, 1)
		chance(t, d, 0, id, rain, 3, 20)
		chance(t, d, 0, id, stop, 3, 20)
		chance(t, d, 0, id, gust, 3, 10)
	}
	chance(t, d, 1, 2, stop, 1, 3)
	chance(t, d, 1, 6, imp, 1, 3)
	chance(t, d, 1, 6, gust, 2, 9)
	chance(t, d, 1, 16, gust, 1, 3)
}

// P26.3: of which pieces and kinds there is no chance.
func TestNoChance(t *testing.T) {
	d := laid(t)
	for who := range uint8(2) {
		for id := -2; id < len(d.Table.Pieces)+2; id++ {
			for kind := -2; kind < len(d.Table.Kinds)+2; kind++ {
				o, is := know.Chance(d, who, id, kind)
				if want := slices.Contains(hiddenOfLaid()[who], id) && kind >= 0 && kind < len(d.Table.Kinds); is != want || !is && o != (api.Odds{}) || is && o.Den == 0 {
					t.Errorf("Chance of %d to %d: %v, %v", id, kind, o, is)
				}
			}
		}
	}
	for _, n := range []int{math.MinInt, math.MaxInt, 1 << 32} {
		for _, c := range [][2]int{{n, 0}, {6, n}, {n, n}} {
			if o, is := know.Chance(d, 0, c[0], c[1]); is || o != (api.Odds{}) {
				t.Errorf("Chance(%d, %d) = %v, %v", c[0], c[1], o, is)
			}
		}
	}
}

// none asks for nothing of all calls.
func none(t *testing.T, d api.Duel, who uint8) {
	t.Helper()
	if l := know.Hidden(d, who); len(l) != 0 {
		t.Errorf("Hidden = %v", l)
	}
	if r := know.Rest(d, who); len(r[0]) != 0 || len(r[1]) != 0 {
		t.Errorf("Rest = %v", r)
	}
	counts(t, d, who, 0, false)
	ranks(t, d, who, 0, api.ErrArg)
	for _, n := range []uint64{0, 1, 240, 1 << 62, math.MaxUint64} {
		refuses(t, d, who, n, api.ErrArg)
	}
	if o, is := know.Chance(d, who, 6, imp); is || o != (api.Odds{}) {
		t.Errorf("Chance = %v, %v", o, is)
	}
}

// P26.1 to P26.3: of no player, of a table that may not be.
func TestNone(t *testing.T) {
	d := laid(t)
	for who := 2; who < 256; who++ {
		none(t, d, uint8(who))
	}
	for i, change := range []func(x *api.Table){
		func(x *api.Table) { x.Turn = 0 },
		func(x *api.Table) { x.Player = 2 },
		func(x *api.Table) { x.Life[1] = -1 },
		func(x *api.Table) { x.Pieces[6].Def = 5 },
		func(x *api.Table) { x.Pieces[6].Def = -1 },
		func(x *api.Table) { x.Pieces[6].Def = math.MinInt },
		func(x *api.Table) { x.Pieces[6].Owner, x.Pieces[6].Has = 2, 2 },
		func(x *api.Table) { x.Pieces[6].Zone = api.Nowhere },
		func(x *api.Table) { x.Pieces[9].Def = rain },
		func(x *api.Table) { x.Pieces[10].Def = ogre },
		func(x *api.Table) { x.Pieces[6].At = 9 },
		func(x *api.Table) { x.Kinds = nil },
		func(x *api.Table) { x.Pieces = slices.Grow(x.Pieces, 200)[:200] },
	} {
		x := duel.Copy(d)
		change(&x.Table)
		if board.May(x.Table) {
			t.Errorf("%d: the table may be", i)
		}
		none(t, x, 0)
		none(t, x, 1)
	}
	none(t, api.Duel{}, 0)
}

// P26.4: by hand: each arrangement shows the player the same, and may be; the other one sees which one it is.
func TestFollows(t *testing.T) {
	d := laid(t)
	for who, count := range []uint64{240, 108} {
		who, v := uint8(who), view.Of(d, uint8(who))
		others := 0
		for n := range count {
			x := deals(t, d, who, n)
			if !board.May(x.Table) || !view.Same(view.Of(x, who), v) {
				t.Errorf("Deal(%d) shows %+v\nnot %+v", n, view.Of(x, who), v)
			}
			if !view.Same(view.Of(x, 1-who), view.Of(d, 1-who)) {
				others++
			}
			same(t, "Hidden", know.Hidden(x, who), hiddenOfLaid()[who])
			counts(t, x, who, count, true)
		}
		if others < int(count)/2 {
			t.Errorf("the other one sees %d", others)
		}
		n, e := know.Rank(d, who)
		if x := deals(t, d, who, n); e != api.OK || !duel.Same(x, d) {
			t.Errorf("Deal(%d) = %+v\nnot %+v", n, x, d)
		}
	}
}

// Rule 1: units in Limbo, and all else that is face down, end each call.
func TestFaceDown(t *testing.T) {
	d := laid(t)
	put(t, &d, 13, api.Limbo, 0, false)
	for who := range uint8(2) {
		if !slices.Contains(know.Hidden(d, who), 13) {
			t.Errorf("Hidden = %v", know.Hidden(d, who))
		}
		n, e := know.Rank(d, who)
		if x := deals(t, d, who, n); e != api.OK || !duel.Same(x, d) {
			t.Errorf("Deal(%d) = %+v\nnot %+v", n, x, d)
		}
		if o, is := know.Chance(d, who, 13, ogre); !is || o.Num == 0 {
			t.Errorf("Chance = %v, %v", o, is)
		}
	}
}
