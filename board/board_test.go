package board_test

import (
	"math"
	"reflect"
	"slices"
	"strconv"
	"testing"

	"joust/api"
	"joust/board"
)

// The places of pool's kinds.
const (
	ogre = iota
	rain
	wind
	net
	stop
	odd
)

// pool is a unit and one of each other kind, a kind of which nobody heard, too.
func pool() []api.Card {
	args := []api.Expr{{N: 1}, {Op: api.ExNot, Args: []api.Expr{{Op: api.ExAttack}}}}
	effects := []api.Effect{{Cond: []api.Expr{{Op: api.ExAdd, Args: args}}, Steps: []api.Step{{Do: api.StHeal, N: api.Expr{Op: api.ExMul, Args: []api.Expr{{N: 2}, {N: 3}}}}}}}
	return []api.Card{
		{Name: "ogre", Level: 4, Attack: 1800, Guard: 900, Effects: effects},
		{Name: "rain", Kind: api.Spell},
		{Name: "wind", Kind: api.Quick, Attack: 5},
		{Name: "net", Kind: api.Trap, Guard: 6},
		{Name: "stop", Kind: api.Counter},
		{Name: "odd", Kind: 99},
	}
}

// begun is a table with these decks.
func begun(t *testing.T, decks ...[]int) api.Table {
	t.Helper()
	x, e := board.New(pool(), [2][]int{decks[0], decks[1]})
	if e != api.OK || !board.May(x) {
		t.Fatalf("New(%v) = %v, %v", decks, x, e)
	}
	return x
}

// put is the table behind a Put that goes well.
func put(t *testing.T, x api.Table, id int, zone, who uint8, up, low bool) api.Table {
	t.Helper()
	y, e := board.Put(x, id, zone, who, up, low)
	if e != api.OK || !board.May(y) {
		t.Fatalf("Put(%d, %d, %d) = %v, %v", id, zone, who, y, e)
	}
	return y
}

// token is the table behind a Token that goes well.
func token(t *testing.T, x api.Table, who uint8, attack int) api.Table {
	t.Helper()
	y, id, e := board.Token(x, who, attack)
	if e != api.OK || id != len(x.Pieces) || !board.May(y) {
		t.Fatalf("Token(%d, %d) = %v, %d, %v", who, attack, y, id, e)
	}
	return y
}

// refused is a Put that answers an error, and the table as it was.
func refused(t *testing.T, x api.Table, id int, zone, who uint8, want api.Errno) {
	t.Helper()
	for _, up := range []bool{false, true} {
		if y, e := board.Put(x, id, zone, who, up, !up); e != want || !board.Same(x, y) || !reflect.DeepEqual(x.Pieces, y.Pieces) {
			t.Errorf("Put(%d, %d, %d) = %v, %v; not %v", id, zone, who, y.Pieces, e, want)
		}
	}
}

func wantIn(t *testing.T, x api.Table, who, zone uint8, want ...int) {
	t.Helper()
	if ids := board.In(x, who, zone); !slices.Equal(ids, want) {
		t.Errorf("In(%d, %d) = %v; not %v", who, zone, ids, want)
	}
}

func wantFree(t *testing.T, x api.Table, who, zone uint8, want int) {
	t.Helper()
	if at := board.Free(x, who, zone); at != want {
		t.Errorf("Free(%d, %d) = %d; not %d", who, zone, at, want)
	}
}

func wantPiece(t *testing.T, x api.Table, id int, want api.Piece) {
	t.Helper()
	if x.Pieces[id] != want {
		t.Errorf("piece %d is %+v; not %+v", id, x.Pieces[id], want)
	}
}

// P6.1, P6.2: the chapter's examples.
func TestExamples(t *testing.T) {
	x, e := board.New(pool()[:2], [2][]int{{ogre, rain}, {ogre}})
	if e != api.OK {
		t.Fatalf("New: %v", e)
	}
	wantIn(t, x, 0, api.Deck, 0, 1)
	x = put(t, x, 0, api.Hand, 0, false, false)
	wantIn(t, x, 0, api.Deck, 1)
	if at := x.Pieces[1].At; at != 0 {
		t.Errorf("the place of 1 is %d", at)
	}
	refused(t, x, 1, api.Row, 0, api.ErrArg)
	x = put(t, x, 2, api.Row, 0, true, false)
	wantFree(t, x, 0, api.Row, 1)
}

// P6.1: a new table, field by field.
func TestNew(t *testing.T) {
	x := begun(t, []int{net, ogre, ogre}, []int{wind, net})
	want := api.Table{Kinds: pool(), Life: [2]int{8000, 8000}, Turn: 1, Pieces: []api.Piece{
		{Def: net, Guard: 6}, {Attack: 1800, Guard: 900, At: 1}, {Attack: 1800, Guard: 900, At: 2},
		{Def: wind, Attack: 5, Owner: 1, Has: 1}, {Def: net, Guard: 6, Owner: 1, Has: 1, At: 1},
	}}
	if !reflect.DeepEqual(x, want) {
		t.Errorf("New = %+v; not %+v", x, want)
	}
	wantIn(t, x, 0, api.Deck, 0, 1, 2)
	wantIn(t, x, 1, api.Deck, 3, 4)
	y, e := board.New(nil, [2][]int{{}, nil})
	if e != api.OK || !board.May(y) || len(y.Pieces) != 0 || y.Life != want.Life || y.Turn != 1 {
		t.Errorf("New of nothing = %v, %v", y, e)
	}
}

func wantNone(t *testing.T, kinds []api.Card, decks [2][]int) {
	t.Helper()
	if x, e := board.New(kinds, decks); e != api.ErrArg || !reflect.DeepEqual(x, api.Table{}) {
		t.Errorf("New(%v) = %v, %v", decks, x, e)
	}
}

// P6.1: what New refuses, in either deck, and what it does not.
func TestNewRefuses(t *testing.T) {
	kinds := pool()
	for size := range 2 * api.MaxDeck {
		deck := make([]int, size)
		for _, decks := range [][2][]int{{deck, {ogre}}, {{rain}, deck}, {deck, deck}} {
			if size > api.MaxDeck {
				wantNone(t, kinds, decks)
			} else if x := begun(t, decks[:]...); len(x.Pieces) != len(decks[0])+len(decks[1]) {
				t.Errorf("New(%v) = %v", decks, x)
			}
		}
	}
	for _, def := range []int{-1, -2, len(kinds), len(kinds) + 1, math.MinInt, math.MaxInt} {
		for _, deck := range [][]int{{def}, {def, ogre, ogre}, {ogre, rain, def}} {
			wantNone(t, kinds, [2][]int{deck, {ogre}})
			wantNone(t, kinds, [2][]int{{ogre}, deck})
		}
	}
	wantNone(t, nil, [2][]int{{0}})
	for n, ok := range map[int]bool{-1: false, 0: true, api.MaxNumber: true, api.MaxNumber + 1: false, math.MinInt: false, math.MaxInt: false} {
		for _, kind := range []api.Card{{Attack: n}, {Guard: n}, {Kind: api.Trap, Attack: n}} {
			wrong := append(pool(), kind)
			if x, e := board.New(wrong, [2][]int{{ogre, net}, {wind}}); e != api.OK || !board.May(x) {
				t.Errorf("New with a kind of %d that is in no deck: %v", n, e)
			}
			for _, decks := range [][2][]int{{{ogre, odd + 1}, {ogre}}, {{ogre}, {odd + 1}}} {
				if !ok {
					wantNone(t, wrong, decks)
				} else if x, e := board.New(wrong, decks); e != api.OK || !board.May(x) {
					t.Errorf("New with a kind of %d: %v", n, e)
				}
			}
		}
	}
}

// P6.1: kinds of pieces, of tokens, of what is not there, on whatever table.
func TestKind(t *testing.T) {
	x := begun(t, []int{ogre, rain, wind}, []int{net, stop, odd})
	x = token(t, x, 1, 5)
	for i, table := range []api.Table{x, put(t, x, 6, api.Grave, 0, true, true), {Kinds: x.Kinds, Pieces: x.Pieces}} {
		for id, want := range []uint8{api.Unit, api.Spell, api.Quick, api.Trap, api.Counter, 99, api.Unit, api.Unit} {
			if kind := board.Kind(table, id); kind != want {
				t.Errorf("%d: Kind(%d) = %d; not %d", i, id, kind, want)
			}
		}
		for _, id := range []int{-1, 8, math.MinInt, math.MaxInt} {
			if kind := board.Kind(table, id); kind != api.Unit {
				t.Errorf("%d: Kind(%d) = %d", i, id, kind)
			}
		}
	}
	wrong := api.Table{Kinds: []api.Card{{Kind: api.Trap}}, Pieces: []api.Piece{{Def: 1}, {Def: -2}, {Def: math.MaxInt}, {Def: math.MinInt}, {}}}
	for id, want := range []uint8{api.Unit, api.Unit, api.Unit, api.Unit, api.Trap} {
		if kind := board.Kind(wrong, id); kind != want {
			t.Errorf("Kind(%d) = %d; not %d", id, kind, want)
		}
	}
}

// P6.1: pieces by their places, then by their numbers; each where it is, with the one who has it.
func TestIn(t *testing.T) {
	x := begun(t, []int{ogre, ogre, ogre, net, net}, []int{ogre, ogre, rain})
	for _, id := range []int{2, 0, 1} {
		x = put(t, x, id, api.Hand, 0, false, false)
	}
	wantIn(t, x, 0, api.Hand, 2, 0, 1)
	wantIn(t, x, 0, api.Deck, 3, 4)
	wantIn(t, x, 1, api.Deck, 5, 6, 7)
	x = put(t, put(t, x, 6, api.Row, 0, true, false), 0, api.Row, 0, true, false)
	x = put(t, put(t, x, 2, api.Row, 1, false, true), 5, api.Limbo, 0, true, false)
	x = put(t, put(t, x, 4, api.Back, 1, false, false), 7, api.Back, 1, false, false)
	wantIn(t, x, 0, api.Row, 6, 0)
	wantIn(t, x, 1, api.Row, 2)
	wantIn(t, x, 0, api.Limbo, 5)
	wantIn(t, x, 1, api.Limbo)
	wantIn(t, x, 1, api.Back, 4, 7)
	wantIn(t, x, 0, api.Hand, 1)
	x.Pieces[6].At, x.Pieces[0].At = 4, 2
	x.Pieces[4].At, x.Pieces[7].At = 3, 1
	wantIn(t, x, 0, api.Row, 0, 6)
	wantIn(t, x, 1, api.Back, 7, 4)
	for range 3 {
		x = put(t, token(t, token(t, x, 1, 3), 0, 4), len(x.Pieces), api.Exile, 0, true, false)
		x = put(t, x, len(x.Pieces)-1, api.Exile, 0, true, false)
	}
	wantIn(t, x, 1, api.Nowhere, 8, 10, 12)
	wantIn(t, x, 0, api.Nowhere, 9, 11, 13)
	for who := range 256 {
		for zone := range 256 {
			if ids := board.In(x, uint8(who), uint8(zone)); len(ids) > 0 && (who > 1 || zone > api.Nowhere) {
				t.Errorf("In(%d, %d) = %v", who, zone, ids)
			}
		}
	}
	x.Turn = 0
	wantIn(t, x, 0, api.Row)
	wantIn(t, x, 1, api.Nowhere)
}

// P6.1: first free places, for each way in which some are taken.
func TestFree(t *testing.T) {
	whole := begun(t, append(slices.Repeat([]int{ogre}, api.Slots), slices.Repeat([]int{net}, api.Slots)...), nil)
	for at := range api.Slots {
		whole = put(t, whole, at, api.Row, 1, true, false)
		whole = put(t, whole, at+api.Slots, api.Back, 0, true, false)
	}
	for taken := range 1 << api.Slots {
		x, want := whole, -1
		for at := range api.Slots {
			if taken&(1<<at) == 0 {
				x = put(t, put(t, x, at, api.Hand, 1, true, false), at+api.Slots, api.Exile, 0, true, false)
				if want == -1 {
					want = at
				}
			}
		}
		wantFree(t, x, 1, api.Row, want)
		wantFree(t, x, 0, api.Back, want)
		wantFree(t, x, 0, api.Row, 0)
		wantFree(t, x, 1, api.Back, 0)
		for who := range 256 {
			for zone := range 256 {
				if who > 1 || zone != api.Row && zone != api.Back {
					wantFree(t, x, uint8(who), uint8(zone), -1)
				}
			}
		}
		x.Player = 2
		wantFree(t, x, 0, api.Row, -1)
		wantFree(t, x, 1, api.Back, -1)
	}
}

// eachChange changes one thing of what v holds at a time, tells it, and puts it back.
func eachChange(v reflect.Value, path string, told func(path string)) {
	was := reflect.New(v.Type()).Elem()
	was.Set(v)
	set := func(to reflect.Value) {
		v.Set(to)
		told(path)
		v.Set(was)
	}
	switch v.Kind() {
	case reflect.Struct:
		for i := range v.NumField() {
			eachChange(v.Field(i), path+"."+v.Type().Field(i).Name, told)
		}
	case reflect.Slice, reflect.Array:
		for i := range v.Len() {
			eachChange(v.Index(i), path+"["+strconv.Itoa(i)+"]", told)
		}
		if v.Kind() == reflect.Slice {
			more := reflect.MakeSlice(v.Type(), v.Len()+1, v.Len()+1)
			reflect.Copy(more, v)
			set(more)
		}
		if v.Kind() == reflect.Slice && v.Len() > 0 {
			set(v.Slice(0, v.Len()-1))
			set(v.Slice(1, v.Len()))
		}
	case reflect.String:
		set(reflect.ValueOf(v.String() + "x"))
	case reflect.Bool:
		set(reflect.ValueOf(!v.Bool()))
	case reflect.Int:
		set(reflect.ValueOf(int(v.Int()) + 1))
		set(reflect.ValueOf(int(v.Int()) - 1<<40))
	case reflect.Uint8:
		set(reflect.ValueOf(uint8(v.Uint()) + 1))
		set(reflect.ValueOf(uint8(v.Uint()) + 128))
	}
}

// full is a table in which nothing is 0 but what must be.
func full(t *testing.T) api.Table {
	t.Helper()
	x := token(t, put(t, begun(t, []int{ogre, net, rain}, []int{ogre, wind}), 3, api.Row, 0, true, true), 1, 300)
	x.Events = []api.Event{{Ev: api.EvSummon, Moment: 4, Piece: 3, Who: 1}, {Ev: api.EvDamage, Moment: 5, Piece: -1}}
	x.Life, x.Turn, x.Player, x.Moment, x.Lost = [2]int{5, 6}, 7, 1, 8, [2]bool{true, false}
	x.Pieces[3].Used, x.Pieces[3].Struck, x.Pieces[3].Boost = 3, true, -40
	return x
}

// P6.3: a copy is the same; one that differs in anything is not.
func TestSame(t *testing.T) {
	x, y := full(t), board.Copy(full(t))
	if !reflect.DeepEqual(x, y) || !board.Same(x, y) || !board.Same(y, x) || !board.Same(x, x) {
		t.Errorf("Copy(%v) = %v", x, y)
	}
	count := 0
	eachChange(reflect.ValueOf(&x).Elem(), "", func(path string) {
		count++
		if board.Same(x, y) || board.Same(y, x) {
			t.Errorf("Same, but for the table%s", path)
		}
		if !board.Same(x, board.Copy(x)) {
			t.Errorf("no copy of a table with another%s", path)
		}
	})
	if count < 250 {
		t.Errorf("%d changes", count)
	}
	x.Pieces[0], x.Pieces[1] = x.Pieces[1], x.Pieces[0]
	if board.Same(x, y) {
		t.Error("Same of pieces in another order")
	}
}

// P6.3: a list that is nil and one without elements are the same.
func TestSameOfNothing(t *testing.T) {
	a, b := api.Table{}, api.Table{Kinds: []api.Card{}, Pieces: []api.Piece{}, Events: []api.Event{}}
	if !board.Same(a, b) || !board.Same(b, a) || !board.Same(board.Copy(a), board.Copy(b)) {
		t.Error("Same of nothing = false")
	}
	a.Kinds, b.Kinds = []api.Card{{}}, []api.Card{{Effects: []api.Effect{}}}
	if !board.Same(a, b) || !board.Same(board.Copy(b), a) {
		t.Error("Same of kinds without effects = false")
	}
}
