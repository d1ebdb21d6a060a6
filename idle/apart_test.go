package idle_test

import (
	"math"
	"reflect"
	"slices"
	"testing"
	"time"

	"joust/api"
	"joust/board"
	"joust/idle"
)

// scribble changes all that v's lists hold, the room behind their ends, too.
func scribble(v reflect.Value) {
	switch v.Kind() {
	case reflect.Struct:
		for i := range v.NumField() {
			scribble(v.Field(i))
		}
	case reflect.Array:
		for i := range v.Len() {
			scribble(v.Index(i))
		}
	case reflect.Slice:
		l := v.Slice(0, v.Cap())
		for i := range l.Len() {
			scribble(l.Index(i))
		}
	case reflect.String:
		v.SetString(v.String() + "!")
	case reflect.Bool:
		v.SetBool(!v.Bool())
	case reflect.Int:
		v.SetInt(v.Int() + 1000)
	case reflect.Uint8:
		v.SetUint(v.Uint() + 100)
	}
}

// roomy is a list with room behind its end.
func roomy[T any](l []T) []T { return append(make([]T, 0, len(l)+5), l...) }

// held is a table with room behind the end of its lists, and that room.
func held(t *testing.T) (api.Table, func() []any) {
	x, _ := whole(t)
	x.Kinds, x.Pieces = roomy(x.Kinds), roomy(x.Pieces)
	x.Events = roomy([]api.Event{{Ev: api.EvSummon, Piece: 0, Moment: 7}})
	steps := roomy([]api.Step{{N: api.Expr{Op: api.ExAdd, Args: roomy([]api.Expr{{N: 1}, {N: 2}})}}})
	cond := roomy([]api.Expr{{N: 1}})
	x.Kinds[mage].Effects[0].Steps, x.Kinds[mage].Effects[0].Cond = steps, cond
	all := func() []any {
		args := steps[0].N.Args
		return []any{x.Kinds[:cap(x.Kinds)], x.Pieces[:cap(x.Pieces)], x.Events[:cap(x.Events)], steps[:cap(steps)], args[:cap(args)], cond[:cap(cond)]}
	}
	return x, all
}

// answers are those of all options, of an option that is none, and the options themselves.
func answers(t *testing.T, x api.Table) []any {
	t.Helper()
	l := []any{idle.Options(x, false, false), idle.Options(x, true, true)}
	for _, o := range append(idle.Options(x, false, false), option(api.OpLot, 5, 5)) {
		y, e := idle.Do(x, o)
		if (e == api.OK) != slices.Contains([]uint8{api.OpSummon, api.OpSet, api.OpLay, api.OpTurn}, o.Do) {
			t.Fatalf("Do(%v) = %v", o, e)
		}
		l = append(l, y)
	}
	return l
}

// scribbled changes all that a list holds.
func scribbled(l []any) {
	for _, v := range l {
		p := reflect.New(reflect.TypeOf(v)).Elem()
		p.Set(reflect.ValueOf(v))
		scribble(p)
	}
}

// What was handed in stays as it is, the room behind its end, too; what is answered is new memory, with an error, too.
func TestApart(t *testing.T) {
	x, room := held(t)
	_, want := held(t)
	first, again := answers(t, x), answers(t, x)
	if !reflect.DeepEqual(first, again) || !reflect.DeepEqual(room(), want()) {
		t.Fatal("what was handed in changed")
	}
	y, _ := held(t)
	wanted := answers(t, y)
	for i := range first { // each against the others of the same round, too
		scribbled(first[i : i+1])
		if !reflect.DeepEqual(first[i+1:], wanted[i+1:]) {
			t.Errorf("answer %d shares memory with another one", i)
		}
	}
	if !reflect.DeepEqual(again, wanted) || !reflect.DeepEqual(room(), want()) {
		t.Error("answers share memory")
	}
	scribble(reflect.ValueOf(&x).Elem())
	if !reflect.DeepEqual(again, wanted) {
		t.Error("an answer shares memory with what was handed in")
	}
}

// Each call ends, and in time, whatever kinds and events a table tells.
func TestCallsEnd(t *testing.T) {
	within := make([]api.Expr, 3)
	for i := range within {
		within[i] = api.Expr{Op: api.ExAdd, Args: within[i/2:]}
	}
	double := []api.Expr{{}}
	for range 100 {
		double = []api.Expr{{Op: api.ExAdd, Args: double}, {Op: api.ExAdd, Args: double}}
	}
	effects := make([]api.Effect, 40)
	for i := range effects {
		effects[i] = api.Effect{Cond: [][]api.Expr{within, double}[i%2], Pick: math.MinInt, Discard: math.MinInt, Pay: math.MinInt}
	}
	var l []api.Piece
	for at := range 20 {
		l = append(l, hand(rain, 2*at), hand(pawn, 2*at+1))
	}
	for at := range api.Slots {
		l = append(l, of(mage, since(0, row(0, at))))
	}
	x := table(t, l...)
	x.Kinds[rain].Effects = effects
	x.Kinds[pawn].Level = math.MaxInt
	x.Events, x.Turn = make([]api.Event, 1<<16), math.MaxInt
	start := time.Now()
	options := idle.Options(x, false, false)
	if n := len(options); n < 2*20*api.Slots+20+2*api.Slots+api.Slots+2 {
		t.Errorf("%d options", n)
	}
	for _, o := range []api.Option{options[0], options[1], lay(0), turn(40), play(0, 0), end, {}} {
		idle.Do(x, o)
	}
	if d := time.Since(start); d > 20*time.Second {
		t.Errorf("it took %v", d)
	}
}

// A table of very many pieces may not be: nothing may be done there.
func TestManyPieces(t *testing.T) {
	x := table(t, hand(pawn, 0))
	x.Pieces = append(x.Pieces, make([]api.Piece, 1<<20)...)
	if l := idle.Options(x, false, false); len(l) > 0 {
		t.Errorf("%d options", len(l))
	}
	if y, e := idle.Do(x, option(api.OpSummon, 0, -1)); e != api.ErrArg || !board.Same(x, y) {
		t.Errorf("Do: %v", e)
	}
}
