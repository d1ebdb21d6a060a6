package know_test

import (
	"cmp"
	"math/rand/v2"
	"reflect"
	"slices"
	"sync"
	"testing"

	"joust/api"
	"joust/duel"
	"joust/know"
)

// stretch is the memory of a list, with the room behind its end.
type stretch struct{ from, to uintptr }

// stretches are those of all the lists in v.
func stretches(v reflect.Value) (l []stretch) {
	switch v.Kind() {
	case reflect.Struct:
		for i := range v.NumField() {
			l = append(l, stretches(v.Field(i))...)
		}
	case reflect.Array:
		for i := range v.Len() {
			l = append(l, stretches(v.Index(i))...)
		}
	case reflect.Slice:
		if v.Cap() > 0 {
			l = append(l, stretch{v.Pointer(), v.Pointer() + uintptr(v.Cap())*v.Type().Elem().Size()})
		}
		v = v.Slice(0, v.Cap())
		for i := range v.Len() {
			l = append(l, stretches(v.Index(i))...)
		}
	}
	return l
}

// apart tells whether no two of all the lists share anything.
func apart(all ...any) bool {
	var l []stretch
	for _, one := range all {
		l = append(l, stretches(reflect.ValueOf(one))...)
	}
	slices.SortFunc(l, func(a, b stretch) int { return cmp.Compare(a.from, b.from) })
	for i := 1; i < len(l); i++ {
		if l[i].from < l[i-1].to {
			return false
		}
	}
	return true
}

// roomy gives each list in v that has something room behind its end, in which something lies.
func roomy(v reflect.Value) {
	switch v.Kind() {
	case reflect.Struct:
		for i := range v.NumField() {
			roomy(v.Field(i))
		}
	case reflect.Slice:
		size := v.Len()
		if size == 0 {
			return
		}
		l := reflect.MakeSlice(v.Type(), size+2, size+2)
		reflect.Copy(l, v)
		l.Index(size).Set(l.Index(0))
		l.Index(size + 1).Set(l.Index(size - 1))
		for i := range l.Len() {
			roomy(l.Index(i))
		}
		v.Set(l.Slice(0, size))
	}
}

// whole is a copy of v, in which the room behind the ends of its lists belongs to them.
func whole(v reflect.Value) reflect.Value {
	to := reflect.New(v.Type()).Elem()
	to.Set(v)
	switch v.Kind() {
	case reflect.Struct:
		for i := range v.NumField() {
			to.Field(i).Set(whole(v.Field(i)))
		}
	case reflect.Slice:
		v = v.Slice(0, v.Cap())
		to.Set(reflect.MakeSlice(v.Type(), v.Len(), v.Len()))
		for i := range v.Len() {
			to.Index(i).Set(whole(v.Index(i)))
		}
	}
	return to
}

func wholeDuel(d api.Duel) any { return whole(reflect.ValueOf(d)).Interface() }

// busy is a duel with something in all of its lists, each with room behind its end.
func busy(t *testing.T) api.Duel {
	t.Helper()
	d := laid(t)
	d.Table.Events = []api.Event{{Ev: 3}, {Ev: 4}}
	d.Table.Kinds[ogre].Effects = []api.Effect{{Mode: api.Act, Cond: []api.Expr{{Op: api.ExNot, Args: []api.Expr{{N: 1}}}}, Steps: []api.Step{{N: api.Expr{Args: []api.Expr{{N: 4}}}}}}}
	d.Links = []api.Link{{Who: 1, Piece: 3, Picks: []int{4, 5}}, {Picks: []int{6}}}
	d.Recent, d.Waits, d.Dies = []api.Event{{Ev: 2}}, []api.Ready{{Piece: 8}}, []int{9}
	d.Choice.Picks = []int{1, 2}
	roomy(reflect.ValueOf(&d).Elem())
	return d
}

// Rule 5: what was handed in stays as it is, the room behind its end, too; nothing is shared.
func TestApart(t *testing.T) {
	d := busy(t)
	if !apart(d) {
		t.Fatal("the duel that is handed in shares memory with itself")
	}
	was := wholeDuel(d)
	for who := range uint8(2) {
		for _, n := range []uint64{0, 7, 99, 300} {
			x, _ := know.Deal(d, who, n)
			y, _ := know.Deal(d, who, n)
			know.Rank(d, who)
			know.Ways(d, who)
			know.Chance(d, who, 6, imp)
			if all := []any{d, x, y, know.Hidden(d, who), know.Hidden(d, who), know.Rest(d, who), know.Rest(d, who)}; !apart(all...) {
				t.Errorf("%d, %d: memory is shared", who, n)
			}
			if !reflect.DeepEqual(wholeDuel(d), was) {
				t.Fatalf("%d, %d: the duel that was handed in is changed", who, n)
			}
		}
	}
}

// Rule 4: lists that are nil are as such without elements.
func TestNoLists(t *testing.T) {
	d := laid(t)
	x := duel.Copy(d)
	x.Links, x.Recent, x.Waits, x.Dies, x.Choice.Picks, x.Table.Events = []api.Link{}, []api.Event{}, []api.Ready{}, []int{}, []int{}, []api.Event{}
	for who := range uint8(2) {
		for _, n := range []uint64{0, 50, 107} {
			if y := deals(t, x, who, n); !duel.Same(y, deals(t, d, who, n)) {
				t.Errorf("Deal(%d) = %+v", n, y)
			}
		}
	}
}

// Rule 8: the same again, and at one time.
func TestAtOneTime(t *testing.T) {
	d := busy(t)
	var all sync.WaitGroup
	for i := range 8 {
		all.Add(1)
		go func() {
			defer all.Done()
			lot := rand.New(rand.NewPCG(26, uint64(i)))
			for range 200 {
				n := lot.Uint64N(240)
				x, e := know.Deal(d, 0, n)
				if k, f := know.Rank(x, 0); e != api.OK || f != api.OK || k != n {
					t.Errorf("Rank = %d, %d, not %d", k, f, n)
				}
				if n, is := know.Ways(d, 1); n != 108 || !is {
					t.Errorf("Ways = %d, %v", n, is)
				}
				if o, is := know.Chance(d, 0, 10, gust); !is || o != (api.Odds{Num: 1, Den: 2}) {
					t.Errorf("Chance = %v, %v", o, is)
				}
			}
		}()
	}
	all.Wait()
}
