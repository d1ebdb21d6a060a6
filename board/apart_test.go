package board_test

import (
	"reflect"
	"testing"
	"time"

	"joust/api"
	"joust/board"
)

// scribble changes all that v's lists hold, the room behind their ends, too.
func scribble(v reflect.Value) {
	switch v.Kind() {
	case reflect.Struct:
		for i := range v.NumField() {
			scribble(v.Field(i))
		}
	case reflect.Array:
		for i := range v.Len() {
			scribble(v.Index(i))
		}
	case reflect.Slice:
		all := v.Slice(0, v.Cap())
		for i := range all.Len() {
			scribble(all.Index(i))
		}
	case reflect.String:
		v.SetString(v.String() + "!")
	case reflect.Bool:
		v.SetBool(!v.Bool())
	case reflect.Int:
		v.SetInt(v.Int() + 1000)
	case reflect.Uint8:
		v.SetUint(v.Uint() + 100)
	}
}

// roomy is a table with room behind the ends of its lists, and that room.
func roomy(x api.Table) (api.Table, func() []any) {
	x.Kinds = append(make([]api.Card, 0, 20), x.Kinds...)
	x.Pieces = append(make([]api.Piece, 0, 2*api.MaxCards), x.Pieces...)
	x.Events = append(make([]api.Event, 0, 20), x.Events...)
	steps := x.Kinds[0].Effects[0].Steps
	x.Kinds[0].Effects[0].Steps = append(make([]api.Step, 0, 20), steps...)
	x.Kinds[0].Effects[0].Steps[0].N.Args = append(make([]api.Expr, 0, 20), steps[0].N.Args...)
	return x, func() []any {
		of := x.Kinds[0].Effects[0].Steps
		return []any{x.Kinds[:20], x.Pieces[:2*api.MaxCards], x.Events[:20], of[:20], of[0].N.Args[:20]}
	}
}

// calls are those that answer tables, with errors and without.
func calls(x api.Table) []api.Table {
	wrong := x
	wrong.Turn = 0
	a, e1 := board.Put(x, 2, api.Hand, 0, true, true)
	b, e2 := board.Put(x, 2, api.Row, 0, true, true)
	c, e3 := board.Put(wrong, 2, api.Hand, 0, true, true)
	d, _, e4 := board.Token(x, 0, 5)
	f, _, e5 := board.Token(x, 0, -5)
	if e1 != api.OK || e2 != api.ErrArg || e3 != api.ErrArg || e4 != api.OK || e5 != api.ErrArg {
		return nil
	}
	return []api.Table{a, b, c, d, f, board.Copy(x), board.Copy(wrong)}
}

// What was handed in stays as it is, the room behind its end, too; what is answered is new memory, with an error, too.
func TestApart(t *testing.T) {
	x, room := roomy(full(t))
	y, same := roomy(full(t))
	first, again := calls(x), calls(x)
	if len(first) == 0 || !reflect.DeepEqual(room(), same()) || !reflect.DeepEqual(first, again) {
		t.Fatalf("%v changed", x)
	}
	for i := range first {
		scribble(reflect.ValueOf(&first[i]).Elem())
	}
	if !reflect.DeepEqual(x, y) || !reflect.DeepEqual(room(), same()) || !reflect.DeepEqual(again, calls(y)) {
		t.Error("answers share memory")
	}
	scribble(reflect.ValueOf(&x).Elem())
	if !reflect.DeepEqual(again, calls(y)) {
		t.Error("an answer shares memory with what was handed in")
	}
}

// New keeps nothing of the kinds and decks that it is handed.
func TestNewApart(t *testing.T) {
	kinds, decks := append(make([]api.Card, 0, 20), pool()...), [2][]int{{ogre, net, rain}, {ogre}}
	decks[1] = append(make([]int, 0, 5), decks[1]...)
	x, _ := board.New(kinds, decks)
	y, _ := board.New(pool(), [2][]int{{ogre, net, rain}, {ogre}})
	if !reflect.DeepEqual(kinds[:20], append(make([]api.Card, 0, 20), pool()...)[:20]) || !reflect.DeepEqual(decks, [2][]int{{ogre, net, rain}, {ogre}}) || decks[1][:5][1] != 0 {
		t.Errorf("changed: %v, %v", kinds, decks)
	}
	scribble(reflect.ValueOf(&kinds).Elem())
	scribble(reflect.ValueOf(&decks).Elem())
	if !board.Same(x, y) {
		t.Error("New keeps what it is handed")
	}
	ids, same := board.In(x, 0, api.Deck), board.In(x, 0, api.Deck)
	scribble(reflect.ValueOf(&ids).Elem())
	if !reflect.DeepEqual(same, []int{0, 1, 2}) || !board.Same(x, y) {
		t.Errorf("In = %v", same)
	}
}

// begins gathers where the lists of expressions begin, told out; it is no, if one begins where another one did.
func begins(l []api.Expr, seen map[*api.Expr]bool) bool {
	if len(l) == 0 {
		return true
	}
	apart := !seen[&l[0]]
	seen[&l[0]] = true
	for _, x := range l {
		apart = begins(x.Args, seen) && apart
	}
	return apart
}

// No two lists of an answer share any memory, nor with what was handed in, though that tells one list in very many places, in all of 2097150 expressions.
func TestApartOfMany(t *testing.T) {
	l := []api.Expr{{N: 1}, {N: 2}}
	for range 18 {
		l = []api.Expr{{Op: api.ExAdd, Args: l}, {Op: api.ExAdd, Args: l}}
	}
	kinds := append(pool(), api.Card{Effects: []api.Effect{{Cond: l, Steps: []api.Step{{N: api.Expr{Args: l}}}}}})
	x, e := board.New(kinds, [2][]int{{ogre, net, rain}, {net}})
	if e != api.OK {
		t.Fatal(e)
	}
	given := x
	given.Kinds = kinds
	for i, call := range []func() api.Table{
		func() api.Table { return x },
		func() api.Table { return board.Copy(given) },
		func() api.Table { y, _ := board.Put(given, 0, api.Hand, 0, true, true); return y },
		func() api.Table { y, _ := board.Put(given, 0, api.Back, 0, true, true); return y },
		func() api.Table { y, _, _ := board.Token(given, 0, 5); return y },
		func() api.Table { y, _, _ := board.Token(given, 0, -5); return y },
	} {
		seen := map[*api.Expr]bool{}
		begins(l, seen)
		effect := call().Kinds[len(kinds)-1].Effects[0]
		if !begins(effect.Cond, seen) || !begins(effect.Steps[0].N.Args, seen) {
			t.Errorf("%d: lists share memory", i)
		}
	}
}

// Each call ends, whatever the kinds are, and in time.
func TestCallsEnd(t *testing.T) {
	within := make([]api.Expr, 3)
	for i := range within {
		within[i].Args = within[i/2:]
	}
	double, deep := []api.Expr{{}}, []api.Expr{{}}
	for range 100 {
		double = []api.Expr{{Args: double}, {Args: double}}
	}
	for range 200000 {
		deep = []api.Expr{{Args: deep}}
	}
	start := time.Now()
	for i, args := range [][]api.Expr{within, double, deep} {
		kinds := append(pool(), api.Card{Effects: []api.Effect{{Cond: args}, {Steps: []api.Step{{N: api.Expr{Args: args}}, {N: api.Expr{Args: args}}}}}})
		x, e := board.New(kinds, [2][]int{{ogre, odd + 1}, {net}})
		if e != api.OK || !board.May(x) {
			t.Errorf("%d: New = %v", i, e)
		}
		for round := range 5 {
			x = put(t, x, 0, uint8(round%2), 0, true, true)
			x = token(t, x, 1, 5)
			wantIn(t, x, 0, api.Deck, [][]int{{1, 0}, {1}}[round%2]...)
			wantFree(t, x, 1, api.Row, []int{1, 2, 3, 4, -1}[round])
		}
		refused1, e1 := board.Put(x, 0, api.Back, 0, true, true)
		refused2, _, e2 := board.Token(x, 1, 5)
		if e1 != api.ErrArg || e2 != api.ErrFull || !board.Same(refused1, refused2) || !board.Same(board.Copy(x), x) {
			t.Errorf("%d: %v, %v", i, e1, e2)
		}
		x.Life[0]++
		if board.Same(x, refused1) || board.Kind(x, 1) != api.Unit {
			t.Errorf("%d: Same of other lives", i)
		}
	}
	if d := time.Since(start); d > time.Minute {
		t.Errorf("it took %v", d)
	}
}

// Each call ends on tables that may not be, as long as they like.
func TestWrongTables(t *testing.T) {
	x := begun(t, []int{ogre}, []int{net})
	x.Pieces = append(x.Pieces, make([]api.Piece, 1<<20)...)
	for i := range x.Pieces {
		x.Pieces[i].At, x.Pieces[i].Def, x.Pieces[i].Zone, x.Pieces[i].Has = -i, i-5, uint8(i), uint8(i>>3)
	}
	wantMay(t, "many pieces", x, false)
	for _, size := range []int{len(x.Pieces), api.MaxCards, 9} {
		x.Pieces = x.Pieces[:size]
		refused(t, x, 7, api.Grave, 0, api.ErrArg)
		refusedToken(t, x, 0, 5, api.ErrArg)
		wantIn(t, x, 0, api.Deck)
		wantFree(t, x, 0, api.Row, -1)
		if !board.Same(x, board.Copy(x)) || board.Kind(x, 8) != api.Trap {
			t.Errorf("Copy or Kind of %d pieces", size)
		}
	}
}
