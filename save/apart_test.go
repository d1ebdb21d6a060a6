package save_test

import (
	"bytes"
	"cmp"
	"reflect"
	"slices"
	"sync"
	"testing"

	"joust/api"
	"joust/duel"
	"joust/save"
)

// stretch is the memory of a list, with the room behind its end.
type stretch struct{ from, to uintptr }

// stretches are those of all the lists in v, the ones in the room behind the ends, too.
func stretches(v reflect.Value) (l []stretch) {
	switch v.Kind() {
	case reflect.Struct:
		for i := range v.NumField() {
			l = append(l, stretches(v.Field(i))...)
		}
	case reflect.Slice:
		if v.Cap() > 0 {
			l = append(l, stretch{v.Pointer(), v.Pointer() + uintptr(v.Cap())*v.Type().Elem().Size()})
		}
		v = v.Slice(0, v.Cap())
		for i := range v.Len() {
			l = append(l, stretches(v.Index(i))...)
		}
	}
	return l
}

// apart tells whether no two of all the lists share anything.
func apart(all ...any) bool {
	var l []stretch
	for _, one := range all {
		l = append(l, stretches(reflect.ValueOf(one))...)
	}
	slices.SortFunc(l, func(a, b stretch) int { return cmp.Compare(a.from, b.from) })
	for i := 1; i < len(l); i++ {
		if l[i].from < l[i-1].to {
			return false
		}
	}
	return true
}

// roomy gives each list in v that has something room behind its end, in which something lies.
func roomy(v reflect.Value) {
	switch v.Kind() {
	case reflect.Struct:
		for i := range v.NumField() {
			roomy(v.Field(i))
		}
	case reflect.Slice:
		size := v.Len()
		if size == 0 {
			return
		}
		l := reflect.MakeSlice(v.Type(), size+2, size+2)
		reflect.Copy(l, v)
		l.Index(size).Set(l.Index(0))
		l.Index(size + 1).Set(l.Index(size - 1))
		for i := range l.Len() {
			roomy(l.Index(i))
		}
		v.Set(l.Slice(0, size))
	}
}

// whole is a copy of v, in which the room behind the ends of its lists belongs to them.
func whole(v reflect.Value) reflect.Value {
	to := reflect.New(v.Type()).Elem()
	to.Set(v)
	switch v.Kind() {
	case reflect.Struct:
		for i := range v.NumField() {
			to.Field(i).Set(whole(v.Field(i)))
		}
	case reflect.Slice:
		v = v.Slice(0, v.Cap())
		to.Set(reflect.MakeSlice(v.Type(), v.Len(), v.Len()))
		for i := range v.Len() {
			to.Index(i).Set(whole(v.Index(i)))
		}
	}
	return to
}

func wholeDuel(d api.Duel) any { return whole(reflect.ValueOf(d)).Interface() }

// Rule 5: what was handed in stays as it is, the room behind its end, too; what is answered is new memory.
func TestApart(t *testing.T) {
	many := full(t)
	many.Table.Kinds, many.Dies = pool(t), make([]int, 3000)
	wrong := full(t)
	wrong.Winner, wrong.Passes = 2, 1<<40
	for i, d := range []api.Duel{{}, full(t), many, wrong} {
		roomy(reflect.ValueOf(&d).Elem())
		was := wholeDuel(d)
		a, e := save.Put(d)
		b, f := save.Put(d)
		digest := save.Digest(d)
		if e != f || !bytes.Equal(a, b) || !apart(d, a, b) || !reflect.DeepEqual(wholeDuel(d), was) {
			t.Fatalf("%d: Put shares memory, or changes something", i)
		}
		if e != api.OK {
			continue
		}
		b = append(b, 7, 7, 7)
		kept := bytes.Clone(b)
		b = b[:len(a)]
		x, e := save.Get(b)
		y, f := save.Get(b)
		if e != api.OK || f != api.OK || !duel.Same(x, d) || !apart(d, a, b, x, y) || !bytes.Equal(b[:len(kept)], kept) || save.Sum(b) != digest {
			t.Fatalf("%d: Get shares memory, or changes something: %d", i, e)
		}
		for j := range b {
			b[j] = 1
		}
		if !duel.Same(x, d) || !duel.Same(y, d) {
			t.Errorf("%d: what was got hangs on the bytes", i)
		}
	}
}

// Rule 5: lists that share memory are told as any others, and got apart.
func TestSharedLists(t *testing.T) {
	d := full(t)
	d.Dies = d.Links[0].Picks
	d.Choice.Picks, d.Links[1].Picks, d.Table.Events = d.Dies, d.Dies[1:], d.Recent
	d.Table.Kinds = append(d.Table.Kinds, d.Table.Kinds...)
	b, ok := saved(t, d)
	x, e := save.Get(b)
	if !ok || e != api.OK || !apart(b, x) {
		t.Errorf("Get = %+v, %d", x, e)
	}
}

// Rule 8: calls at one time answer what each one answers alone.
func TestAtOneTime(t *testing.T) {
	d := full(t)
	b, _ := saved(t, d)
	var group sync.WaitGroup
	for range 8 {
		group.Add(1)
		go func() {
			defer group.Done()
			for range 100 {
				again, e := save.Put(d)
				x, f := save.Get(b)
				if e != api.OK || f != api.OK || !bytes.Equal(again, b) || !duel.Same(x, d) || save.Digest(x) != save.Sum(b) {
					t.Errorf("Put = %x, %d; Get = %+v, %d", again, e, x, f)
				}
			}
		}()
	}
	group.Wait()
}
