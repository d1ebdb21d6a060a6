package trail_test

import (
	"cmp"
	"reflect"
	"slices"
	"sync"
	"testing"

	"joust/api"
	"joust/duel"
	"joust/trail"
)

// stretch is the memory of a list, with the room behind its end.
type stretch struct{ from, to uintptr }

// stretches are those of all the lists in v, the ones that a trail keeps, too.
func stretches(v reflect.Value) (l []stretch) {
	switch v.Kind() {
	case reflect.Pointer:
		return stretches(v.Elem())
	case reflect.Struct:
		for i := range v.NumField() {
			l = append(l, stretches(v.Field(i))...)
		}
	case reflect.Map:
		for i := v.MapRange(); i.Next(); {
			l = append(l, stretches(i.Value())...)
		}
	case reflect.Slice:
		if v.Cap() > 0 && v.Type().Elem().Size() > 0 {
			l = append(l, stretch{v.Pointer(), v.Pointer() + uintptr(v.Cap())*v.Type().Elem().Size()})
		}
		v = v.Slice(0, v.Cap())
		for i := range v.Len() {
			l = append(l, stretches(v.Index(i))...)
		}
	}
	return l
}

// apart tells whether no two of all the lists share anything.
func apart(all ...any) bool {
	var l []stretch
	for _, one := range all {
		l = append(l, stretches(reflect.ValueOf(one))...)
	}
	slices.SortFunc(l, func(a, b stretch) int { return cmp.Compare(a.from, b.from) })
	for i := 1; i < len(l); i++ {
		if l[i].from < l[i-1].to {
			return false
		}
	}
	return true
}

// roomy gives each list in v that has something room behind its end, in which something lies.
func roomy(v reflect.Value) {
	switch v.Kind() {
	case reflect.Struct:
		for i := range v.NumField() {
			roomy(v.Field(i))
		}
	case reflect.Slice:
		size := v.Len()
		if size == 0 {
			return
		}
		l := reflect.MakeSlice(v.Type(), size+2, size+2)
		reflect.Copy(l, v)
		l.Index(size).Set(l.Index(0))
		l.Index(size + 1).Set(l.Index(size - 1))
		for i := range l.Len() {
			roomy(l.Index(i))
		}
		v.Set(l.Slice(0, size))
	}
}

// whole is a copy of v, in which the room behind the ends of its lists belongs to them.
func whole(v reflect.Value) reflect.Value {
	to := reflect.New(v.Type()).Elem()
	to.Set(v)
	switch v.Kind() {
	case reflect.Struct:
		for i := range v.NumField() {
			to.Field(i).Set(whole(v.Field(i)))
		}
	case reflect.Slice:
		v = v.Slice(0, v.Cap())
		to.Set(reflect.MakeSlice(v.Type(), v.Len(), v.Len()))
		for i := range v.Len() {
			to.Index(i).Set(whole(v.Index(i)))
		}
	}
	return to
}

func wholeDuel(d api.Duel) any { return whole(reflect.ValueOf(d)).Interface() }

// spoil makes all that lies in the lists of v something else.
func spoil(v reflect.Value) {
	switch v.Kind() {
	case reflect.Struct:
		for i := range v.NumField() {
			spoil(v.Field(i))
		}
	case reflect.Slice:
		for i := range v.Len() {
			spoil(v.Index(i))
			v.Index(i).SetZero()
			if v.Index(i).CanInt() {
				v.Index(i).SetInt(77)
			}
		}
	}
}

func spoilDuel(d api.Duel) { spoil(reflect.ValueOf(&d).Elem()) }

// busyDuel is a duel with something in most of its lists, each with room behind its end, and a script that leads on from there.
func busyDuel(t *testing.T) (api.Duel, []int) {
	t.Helper()
	d, script := monks(t)
	done := 200
	for d = behind(t, d, script[:done]); len(d.Links) == 0; done++ {
		d = behind(t, d, script[done:done+1])
	}
	d.Dies = []int{3, 4}
	d.Choice.Picks = []int{5}
	roomy(reflect.ValueOf(&d).Elem())
	return d, append(slices.Clone(script[done:done+40]), 99, 99)[:40]
}

// Rule 5: what was handed in stays as it is, the room behind its end, too; nothing is shared.
func TestApart(t *testing.T) {
	d, script := busyDuel(t)
	was, wasScript := wholeDuel(d), slices.Clone(script[:cap(script)])
	x := made(t, d, script)
	y := made(t, d, script)
	z, _ := trail.New(d)
	f, _ := x.Fork(35)
	g, _ := x.Fork(35)
	none, _ := x.Fork(0)
	l, _ := x.Script()
	m, _ := x.Script()
	if !apart(d, script, x, y, z, f, g, none, l, m, x.Duel(), x.Duel(), z.Duel(), z.Duel(), none.Duel()) {
		t.Error("memory is shared")
	}
	for _, place := range []int{0, 16, 32, 40} {
		answers(t, "Go", x.Go(place), api.OK)
		if !apart(d, x, x.Duel(), x.Duel()) {
			t.Errorf("memory is shared at %d", place)
		}
	}
	answers(t, "Go", f.Go(16), api.OK)
	answers(t, "Do", f.Do(len(duel.Ask(f.Duel()).Options)-1), api.OK)
	if !reflect.DeepEqual(wholeDuel(d), was) || !slices.Equal(script[:cap(script)], wasScript) {
		t.Error("what was handed in is changed")
	}
}

// Rule 5: what becomes of lists that were handed in or answered is no matter of a trail.
func TestSpoiled(t *testing.T) {
	d, script := busyDuel(t)
	first, plainScript := duel.Copy(d), slices.Clone(script)
	x := made(t, d, script)
	z, e := trail.New(d)
	answers(t, "New", e, api.OK)
	spoilDuel(d)
	spoil(reflect.ValueOf(script))
	for _, place := range []int{0, 7, 16, 33, 40} {
		answers(t, "Go", x.Go(place), api.OK)
		spoilDuel(x.Duel())
		l, _ := x.Script()
		spoil(reflect.ValueOf(l))
		stands(t, "Go", x, first, plainScript, place)
		f, e := x.Fork(place)
		answers(t, "Fork", e, api.OK)
		l, _ = f.Script()
		spoil(reflect.ValueOf(l))
		spoilDuel(f.Duel())
		answers(t, "Do", f.Do(len(duel.Ask(f.Duel()).Options)-1), api.OK)
		stands(t, "Go", x, first, plainScript, place)
	}
	stands(t, "New", z, first, nil, 0)
}

// Rule 5: a script that was answered isn't written into by decisions that come later.
func TestScriptStays(t *testing.T) {
	x := made(t, ogres(t, 0), make([]int, 20))
	l, _ := x.Script()
	f, _ := x.Fork(12)
	answers(t, "Go", x.Go(12), api.OK)
	answers(t, "Do(1)", x.Do(1), api.OK)
	m, _ := x.Script()
	answers(t, "Do(0)", x.Do(0), api.OK)
	if !slices.Equal(l, make([]int, 20)) || !slices.Equal(m, append(make([]int, 12), 1)) || !slices.Equal(m[:cap(m)][:13], m) {
		t.Errorf("Script = %v, %v", l, m)
	}
	stands(t, "Fork", f, ogres(t, 0), make([]int, 12), 12)
}

// Rule 8: calls at one time, of a trail that nobody changes, and of trails of one's own.
func TestAtOneTime(t *testing.T) {
	first, script := monks(t)
	script = script[:200]
	x := made(t, first, script)
	answers(t, "Go", x.Go(150), api.OK)
	want := behind(t, first, script[:150])
	var all sync.WaitGroup
	for i := range 8 {
		all.Add(1)
		go func() {
			defer all.Done()
			for k := range 10 {
				if d := x.Duel(); !duel.Same(d, want) || x.Kept() != 13 {
					t.Errorf("Duel = %+v", d)
				}
				f, e := x.Fork(20*i + k)
				if e != api.OK || f.Do(script[20*i+k]) != api.OK || f.Go(k) != api.OK {
					t.Errorf("%d: Fork: %d", i, e)
				}
				if l, p := f.Script(); !slices.Equal(l, script[:20*i+k+1]) || p != k {
					t.Errorf("%d: Script = %v, %d", i, l, p)
				}
				y, _, e := trail.Make(first, script[:k+10])
				if e != api.OK || y.Do(script[k+10]) != api.OK {
					t.Errorf("%d: Make: %d", i, e)
				}
			}
		}()
	}
	all.Wait()
	stands(t, "x", x, first, script, 150)
}
