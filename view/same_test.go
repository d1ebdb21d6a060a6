package view_test

import (
	"reflect"
	"testing"

	"joust/api"
	"joust/duel"
	"joust/view"
)

// leaves calls f with each number and truth in v.
func leaves(v reflect.Value, path string, f func(path string, v reflect.Value)) {
	switch v.Kind() {
	case reflect.Struct:
		for i := range v.NumField() {
			leaves(v.Field(i), path+"."+v.Type().Field(i).Name, f)
		}
	case reflect.Array, reflect.Slice:
		for i := range v.Len() {
			leaves(v.Index(i), path, f)
		}
	default:
		f(path, v)
	}
}

// other changes a number, a text or a truth.
func other(v reflect.Value) {
	switch v.Kind() {
	case reflect.String:
		v.SetString(v.String() + "!")
	case reflect.Bool:
		v.SetBool(!v.Bool())
	case reflect.Int:
		v.SetInt(v.Int() + 1)
	case reflect.Uint8:
		v.SetUint(v.Uint() + 1)
	}
}

// P18.1: two views are the same, if nothing in them is another thing.
func TestSame(t *testing.T) {
	a, b := view.Of(laid(t), 0), view.Of(laid(t), 0)
	if !view.Same(a, b) || !view.Same(api.View{}, api.View{}) || view.Same(a, api.View{}) {
		t.Error("the same are not the same")
	}
	seen := map[string]int{}
	leaves(reflect.ValueOf(&b).Elem(), "", func(path string, v reflect.Value) {
		was := reflect.New(v.Type()).Elem()
		was.Set(v)
		other(v)
		if view.Same(a, b) || view.Same(b, a) {
			t.Errorf("another %s is the same", path)
		}
		v.Set(was)
		seen[path]++
	})
	if len(seen) != 17 || seen[".Life"] != 2 || seen[".Pieces.Low"] != 17 || seen[".Options.Arg"] < 5 || !view.Same(a, b) {
		t.Errorf("leaves: %v", seen)
	}
}

// P18.1: two views are others, if a list of one is longer; lists that are nil and lists without elements are the same.
func TestSameLists(t *testing.T) {
	for i, change := range []func(v *api.View){
		func(v *api.View) { v.Pieces = v.Pieces[:5] },
		func(v *api.View) { v.Pieces = v.Pieces[1:] },
		func(v *api.View) { v.Pieces = nil },
		func(v *api.View) { v.Options = v.Options[1:] },
		func(v *api.View) { v.Options = append(v.Options, api.Option{}) },
		func(v *api.View) { v.Options = nil },
		func(v *api.View) { v.Pieces[0], v.Pieces[1] = v.Pieces[1], v.Pieces[0] },
		func(v *api.View) { v.Options[0], v.Options[1] = v.Options[1], v.Options[0] },
	} {
		a, b := view.Of(laid(t), 0), view.Of(laid(t), 0)
		change(&b)
		if view.Same(a, b) || view.Same(b, a) {
			t.Errorf("%d: the same", i)
		}
	}
	empty := api.View{Pieces: []api.Seen{}, Options: []api.Option{}}
	if !view.Same(empty, api.View{}) || !view.Same(api.View{}, empty) {
		t.Error("lists without elements")
	}
}

// roomy is a list with room behind its end, in which something is.
func roomy[T any](l []T, behind T) []T {
	l = append(append([]T(nil), l...), behind, behind)
	return l[:len(l)-2]
}

// held is laid with room behind the ends of its lists.
func held(t *testing.T) api.Duel {
	t.Helper()
	d := laid(t)
	d.Table.Pieces = roomy(d.Table.Pieces, api.Piece{Zone: api.Hand})
	d.Table.Kinds = roomy(d.Table.Kinds, api.Card{Name: "behind"})
	d.Table.Events = roomy([]api.Event{{Ev: api.EvSummon}}, api.Event{Ev: api.EvEnd})
	d.Recent = roomy([]api.Event{{Ev: api.EvSummon, Piece: 1}}, api.Event{Ev: api.EvEnd})
	d.Waits = roomy([]api.Ready{{Piece: 2}, {Piece: 1}}, api.Ready{Piece: 5})
	d.Links = roomy([]api.Link(nil), api.Link{Piece: 5})
	d.Choice = api.Choice{Ready: api.Ready{Who: 1, Piece: 14}, Picks: roomy([]int{1}, 2)}
	return d
}

// behind is a duel's lists with the room behind their ends.
func behind(d api.Duel) []any {
	x := d.Table
	return []any{x.Pieces[:cap(x.Pieces)], x.Kinds[:cap(x.Kinds)], x.Events[:cap(x.Events)], d.Recent[:cap(d.Recent)], d.Waits[:cap(d.Waits)], d.Links[:cap(d.Links)], d.Choice.Picks[:cap(d.Choice.Picks)]}
}

// scribble changes all that a view's lists hold, the room behind their ends, too.
func scribble(v api.View) {
	v.Pieces, v.Options = v.Pieces[:cap(v.Pieces)], v.Options[:cap(v.Options)]
	leaves(reflect.ValueOf(&v).Elem(), "", func(_ string, v reflect.Value) { other(v) })
}

// Rules 5 and 8: what was handed in stays as it is, the room behind its end, too; what is answered is new memory, and the same again.
func TestApart(t *testing.T) {
	for stage := range uint8(api.AtOver + 2) {
		d, want := held(t), held(t)
		d.Stage, want.Stage, d.Asked, want.Asked = stage, stage, 1, 1
		for who := range uint8(2) {
			first, again, kept := view.Of(d, who), view.Of(d, who), view.Of(want, who)
			view.Known(d.Table, 3, who)
			if !view.Same(first, again) || !view.Same(again, kept) {
				t.Errorf("stage %d: %+v, then %+v", stage, first, again)
			}
			scribble(first)
			if !view.Same(again, kept) || !view.Same(again, view.Of(d, who)) {
				t.Errorf("stage %d: views share memory", stage)
			}
			if !duel.Same(d, want) || !reflect.DeepEqual(behind(d), behind(want)) {
				t.Errorf("stage %d: what was handed in changed", stage)
			}
		}
	}
}
