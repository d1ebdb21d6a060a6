package act_test

import (
	"math"
	"reflect"
	"slices"
	"testing"
	"time"

	"joust/act"
	"joust/api"
	"joust/board"
)

// roomy is spread with room behind the ends of its lists, and that room.
func roomy(t *testing.T) (api.Table, func() []any) {
	t.Helper()
	x := spread(t)
	x.Kinds = append(make([]api.Card, 0, 20), x.Kinds...)
	x.Pieces = append(make([]api.Piece, 0, 2*api.MaxCards), x.Pieces...)
	x.Events = append(make([]api.Event, 0, 20), api.Event{Ev: api.EvTry})
	x.Kinds[lord].Effects = append(make([]api.Effect, 0, 20), x.Kinds[lord].Effects...)
	x.Kinds[lord].Effects[0].Cond = []api.Expr{{Op: api.ExNot, Args: []api.Expr{{N: 1}}}}
	return x, func() []any {
		return []any{x.Kinds[:20], x.Pieces[:2*api.MaxCards], x.Events[:20], x.Kinds[lord].Effects[:20]}
	}
}

// calls are what each step comes to, and steps that do nothing, or may not be.
func calls(x api.Table, picks []int) []api.Table {
	var l []api.Table
	for do := range uint8(api.StNegate + 2) {
		for _, zone := range []uint8{api.Row, api.Grave, api.Hand} {
			s := all(do, zone, 5)
			s.Side = api.Any
			y, _ := act.Do(x, 0, 0, api.Effect{}, s, nil)
			z, _ := act.Do(x, 0, 0, picking(zone), api.Step{Do: do, N: num(1)}, picks)
			l = append(l, y, z)
		}
	}
	wrong := x
	wrong.Turn = 0
	a, _ := act.Do(wrong, 0, 0, api.Effect{}, all(api.StDestroy, api.Row, 0), nil)
	b, _ := act.Do(x, 0, -1, api.Effect{}, all(api.StDestroy, api.Row, 0), nil)
	c, _ := act.Draw(x, 0, 2)
	d, _ := act.Draw(x, 2, 2)
	e, _ := act.Draw(x, 0, 0)
	return append(l, a, b, c, d, e)
}

// scribble changes all that v's lists hold, the room behind their ends, too.
func scribble(v reflect.Value) {
	switch v.Kind() {
	case reflect.Struct:
		for i := range v.NumField() {
			scribble(v.Field(i))
		}
	case reflect.Array:
		for i := range v.Len() {
			scribble(v.Index(i))
		}
	case reflect.Slice:
		l := v.Slice(0, v.Cap())
		for i := range l.Len() {
			scribble(l.Index(i))
		}
	case reflect.String:
		v.SetString(v.String() + "!")
	case reflect.Bool:
		v.SetBool(!v.Bool())
	case reflect.Int:
		v.SetInt(v.Int() + 1000)
	case reflect.Uint8:
		v.SetUint(v.Uint() + 100)
	}
}

// What was handed in stays as it is, the room behind its end, too; what is answered is new memory, where nothing was done, too.
func TestApart(t *testing.T) {
	x, room := roomy(t)
	y, same := roomy(t)
	picks := []int{3, 8, 1, 77, 78}
	first, again := calls(x, picks[:3]), calls(x, picks[:3])
	if !reflect.DeepEqual(room(), same()) || !reflect.DeepEqual(first, again) || !slices.Equal(picks, []int{3, 8, 1, 77, 78}) {
		t.Fatalf("%v changed", x)
	}
	for i := range first {
		scribble(reflect.ValueOf(&first[i]).Elem())
	}
	if !reflect.DeepEqual(x, y) || !reflect.DeepEqual(room(), same()) || !reflect.DeepEqual(again, calls(y, picks[:3])) {
		t.Error("answers share memory")
	}
	scribble(reflect.ValueOf(&x).Elem())
	if !reflect.DeepEqual(again, calls(y, picks[:3])) {
		t.Error("an answer shares memory with what was handed in")
	}
}

// begins gathers where the lists of expressions begin, told out; it is no, if one begins where another one did.
func begins(l []api.Expr, seen map[*api.Expr]bool) bool {
	if len(l) == 0 {
		return true
	}
	apart := !seen[&l[0]]
	seen[&l[0]] = true
	for _, x := range l {
		apart = begins(x.Args, seen) && apart
	}
	return apart
}

// No two lists of an answer share any memory, though the table that was handed in tells one list in many places.
func TestApartOfMany(t *testing.T) {
	l := []api.Expr{{N: 1}, {N: 2}}
	for range 10 {
		l = []api.Expr{{Op: api.ExAdd, Args: l}, {Op: api.ExAdd, Args: l}}
	}
	x := spread(t)
	x.Kinds = append(x.Kinds, api.Card{Effects: []api.Effect{{Cond: l, Steps: []api.Step{{N: api.Expr{Args: l}}}}}})
	for _, s := range []api.Step{all(api.StDestroy, api.Row, 0), all(api.StDestroy, api.Hand, 0), {Do: api.StToken}} {
		y, _ := act.Do(x, 0, 0, api.Effect{}, s, nil)
		seen := map[*api.Expr]bool{}
		begins(l, seen)
		effect := y.Kinds[len(x.Kinds)-1].Effects[0]
		if !begins(effect.Cond, seen) || !begins(effect.Steps[0].N.Args, seen) || !board.Same(board.Copy(y), y) {
			t.Errorf("%+v: lists share memory", s)
		}
	}
}

// Each call ends, whatever its numbers, picks, expressions and kinds are, and in time.
func TestCallsEnd(t *testing.T) {
	within, deep := make([]api.Expr, 3), []api.Expr{{}}
	for i := range within {
		within[i] = api.Expr{Op: api.ExAdd, Args: within[i/2:]}
	}
	for range 100000 {
		deep = []api.Expr{{Op: api.ExNot, Args: deep}}
	}
	picks := make([]int, 1<<20)
	for i := range picks {
		picks[i] = i%30 - 5
	}
	start := time.Now()
	for _, args := range [][]api.Expr{within, deep} {
		x := spread(t)
		x.Kinds = append(x.Kinds, api.Card{Effects: []api.Effect{{Cond: args}, {Steps: []api.Step{{N: api.Expr{Args: args}}}}}})
		for do := range uint8(api.StNegate + 1) {
			told := num(math.MaxInt)
			told.Args = args
			for _, n := range []api.Expr{args[0], told} {
				y, _ := act.Do(x, 1, 0, picking(api.Row), api.Step{Do: do, Side: api.Any, N: n}, picks)
				if !board.May(y) || len(y.Kinds) != len(x.Kinds) {
					t.Errorf("step %d: %+v", do, y)
				}
			}
		}
		if y, did := act.Draw(x, 1, math.MaxInt); !did || !y.Lost[1] {
			t.Errorf("Draw = %v", did)
		}
	}
	if d := time.Since(start); d > time.Minute {
		t.Errorf("it took %v", d)
	}
}
