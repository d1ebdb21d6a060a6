package trig_test

import (
	"reflect"
	"slices"
	"testing"

	"joust/api"
	"joust/trig"
)

// roomy is a copy with room behind its end that holds something.
func roomy[T any](l []T, behind T) []T {
	l = append(slices.Clone(l), behind, behind, behind)
	return l[:len(l)-3]
}

// spoil changes all that a list holds, the room behind its end, too.
func spoil(l []api.Ready) {
	l = l[:cap(l)]
	for i := range l {
		l[i] = api.Ready{Who: 77, Piece: 77, Effect: 77, Must: !l[i].Must}
	}
}

// What was handed in stays as it is, the room behind its end, too; what is answered is new memory.
func TestApart(t *testing.T) {
	x := many(t)
	x.Pieces, x.Kinds = roomy(x.Pieces, api.Piece{Def: 5}), roomy(x.Kinds, api.Card{Name: "behind"})
	x.Events = roomy(destroyed(far, 0), api.Event{Piece: 5})
	events := roomy(destroyed(far, 1), api.Event{Piece: 6})
	must := roomy([]api.Ready{{Piece: 3, Effect: 1, Must: true}, {Piece: 6, Effect: 1, Must: true}}, api.Ready{Piece: 8})
	mixed := roomy(trig.Collect(x, events), api.Ready{Piece: 9})
	held := func() []any {
		return []any{x.Pieces[:cap(x.Pieces)], x.Kinds[:cap(x.Kinds)], x.Events[:cap(x.Events)], events[:cap(events)], must[:cap(must)], mixed[:cap(mixed)]}
	}
	calls := []func() []api.Ready{
		func() []api.Ready { return trig.Collect(x, events) },
		func() []api.Ready { return trig.Group(x, must) },
		func() []api.Ready { return trig.Group(x, mixed) },
		func() []api.Ready { return trig.Left(x, must) },
		func() []api.Ready { return trig.Left(x, mixed) },
	}
	var before []any
	for _, l := range held() {
		v := reflect.ValueOf(l)
		before = append(before, reflect.AppendSlice(reflect.MakeSlice(v.Type(), 0, v.Len()), v).Interface())
	}
	var want, again [][]api.Ready
	for _, call := range calls {
		want, again = append(want, slices.Clone(call())), append(again, call())
	}
	for i, call := range calls {
		answer := call()
		if len(answer) == 0 || !slices.Equal(answer, want[i]) {
			t.Errorf("%d: %v; not %v", i, answer, want[i])
		}
		spoil(answer)
		if !reflect.DeepEqual(held(), before) {
			t.Fatalf("%d: what was handed in changed", i)
		}
	}
	if !reflect.DeepEqual(again, want) {
		t.Errorf("answers share memory: %v; not %v", again, want)
	}
}
