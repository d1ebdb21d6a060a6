package save_test

import (
	"bytes"
	"math"
	"reflect"
	"slices"
	"strings"
	"testing"

	"joust/api"
	"joust/print"
	"joust/save"
)

// P23.1: each list of as many things as there may be, and of one more.
func TestLongLists(t *testing.T) {
	d, count := full(t), 0
	lists(reflect.ValueOf(&d).Elem(), "", func(path string, v reflect.Value) {
		count++
		was := reflect.New(v.Type()).Elem()
		was.Set(v)
		for size, want := range map[int]bool{4095: true, 4096: true, 4097: false, 5000: false, 1 << 20: false} {
			v.Set(reflect.MakeSlice(v.Type(), size, size))
			if _, ok := saved(t, d); ok != want {
				t.Errorf("%s with %d things: %t", path, size, ok)
			}
		}
		v.Set(was)
	})
	if count != 9 {
		t.Errorf("%d lists", count)
	}
}

// of is a duel that has just these kinds.
func of(kinds ...api.Card) api.Duel { return api.Duel{Table: api.Table{Kinds: kinds}} }

func times[T any](n int, one T) []T { return slices.Repeat([]T{one}, n) }

// longKinds are kinds whose text would have that many bytes: names take what the effects leave.
func longKinds(t *testing.T, size int) []api.Card {
	t.Helper()
	deep := api.Expr{Op: api.ExLife}
	for range api.MaxDepth - 1 {
		deep = api.Expr{Op: api.ExAdd, Args: []api.Expr{deep, deep}}
	}
	effects := []api.Effect{{Mode: api.Act, Cond: []api.Expr{deep, deep}}}
	short, _ := print.Pool([]api.Card{{Name: "a"}})
	long, _ := print.Pool([]api.Card{{Name: "a", Effects: effects}})
	l := times(api.MaxKinds, api.Card{Name: "a"})
	size -= len(short) * len(l)
	for i := range l {
		if more := len(long) - len(short); size >= more {
			l[i].Effects = effects
			size -= more
		}
	}
	for i := range l {
		more := min(size, api.MaxWord-1)
		l[i].Name += strings.Repeat("b", more)
		size -= more
	}
	if size != 0 {
		t.Fatalf("%d bytes are left", size)
	}
	return l
}

// P23.1: kinds that may be written, and those that may not.
func TestKinds(t *testing.T) {
	for i, kinds := range [][]api.Card{
		{{Name: "é-1", Kind: api.Trap}},
		{{Name: "a"}, {Name: "a"}},
		times(api.MaxKinds, api.Card{Name: "a"}),
		{{Name: "a", Level: api.MaxNumber, Attack: api.MaxNumber, Guard: api.MaxNumber}},
		{{Name: "a", Effects: times(api.MaxEffects, api.Effect{})}},
		longKinds(t, api.MaxText-1),
		longKinds(t, api.MaxText),
	} {
		b, ok := saved(t, of(kinds...))
		text, _ := print.Pool(kinds)
		if want := slices.Concat(number(len(text)), []byte(text), make([]byte, 36)); !ok || !bytes.Equal(b, want) {
			t.Errorf("%d: %t, %x", i, ok, b)
		}
	}
	for i, kinds := range [][]api.Card{
		{{}},
		{{Name: "Two Words"}},
		{{Name: "a"}, {Name: "3"}},
		{{Name: strings.Repeat("a", api.MaxWord+1)}},
		times(api.MaxKinds+1, api.Card{Name: "a"}),
		times(5000, api.Card{Name: "a"}),
		{{Name: "a", Kind: api.Counter + 1}},
		{{Name: "a", Kind: api.Spell, Level: 1}},
		{{Name: "a", Attack: -1}},
		{{Name: "a", Guard: api.MaxNumber + 1}},
		{{Name: "a", Effects: times(api.MaxEffects+1, api.Effect{})}},
		{{Name: "a", Effects: []api.Effect{{Sel: api.Sel{Zone: api.Limbo}}}}},
		longKinds(t, api.MaxText+1),
	} {
		if _, ok := saved(t, of(kinds...)); ok {
			t.Errorf("%d may be saved", i)
		}
	}
}

// ofSize is a duel whose bytes are so many: links of some thousand bytes, and a byte for each of those that die.
func ofSize(t *testing.T, size int) api.Duel {
	t.Helper()
	d := full(t)
	d.Dies = make([]int, 100)
	left := func() int {
		b, _ := written(reflect.ValueOf(d))
		return size - len(b)
	}
	one := api.Link{Picks: times(600, 1<<30)}
	most := left() / 3007
	for n := most - 1; n <= most+1; n++ {
		d.Links, d.Dies = times(n, one), make([]int, 100)
		if more := left(); 0 <= more && more <= 3900 {
			d.Dies = make([]int, 100+more)
			return d
		}
	}
	t.Fatalf("no duel of %d bytes", size)
	return d
}

// P23.1, P23.2: as many bytes as there may be, and one more, of which there is a sum yet.
func TestManyBytes(t *testing.T) {
	for _, size := range []int{api.MaxBytes - 1, api.MaxBytes} {
		d := ofSize(t, size)
		if b, ok := saved(t, d); !ok || len(b) != size {
			t.Errorf("%d bytes: %t, %d", size, ok, len(b))
		}
	}
	for _, size := range []int{api.MaxBytes + 1, api.MaxBytes + 2, api.MaxBytes + 1000} {
		d := ofSize(t, size)
		b, _ := written(reflect.ValueOf(d))
		if _, ok := saved(t, d); ok || len(b) != size {
			t.Errorf("%d bytes: %t, %d", size, ok, len(b))
		}
		if x, e := save.Get(b); e != api.ErrLimit || !reflect.DeepEqual(x, api.Duel{}) {
			t.Errorf("Get of %d bytes = %d", size, e)
		}
		d.Winner, d.Passes = 3, math.MaxInt
		if _, ok := saved(t, d); ok || save.Digest(d) != 0 {
			t.Errorf("%d bytes, and a number that may not be saved", size)
		}
	}
	for _, b := range [][]byte{make([]byte, api.MaxBytes+1), bytes.Repeat([]byte{255}, 1<<24)} {
		if x, e := save.Get(b); e != api.ErrLimit || !reflect.DeepEqual(x, api.Duel{}) {
			t.Errorf("Get of %d bytes = %d", len(b), e)
		}
	}
	for _, b := range [][]byte{make([]byte, api.MaxBytes), bytes.Repeat([]byte{255}, api.MaxBytes), bytes.Repeat([]byte{1}, api.MaxBytes), bytes.Repeat([]byte{0x80, 0x40}, api.MaxBytes/2)} {
		if x, e := save.Get(b); e != api.ErrWord || !reflect.DeepEqual(x, api.Duel{}) {
			t.Errorf("Get of %d bytes = %d", len(b), e)
		}
	}
}

// Whatever is handed in, each call ends: kinds that stand within themselves, lists that stand in many places.
func TestCallsEnd(t *testing.T) {
	loop := make([]api.Expr, 2)
	for i := range loop {
		loop[i] = api.Expr{Op: api.ExAdd, Args: loop}
	}
	deep := api.Expr{Op: api.ExNot}
	for range 1 << 17 {
		deep = api.Expr{Op: api.ExNot, Args: []api.Expr{deep}}
	}
	for _, x := range []api.Expr{loop[0], deep} {
		if b, e := save.Put(of(api.Card{Name: "a", Effects: []api.Effect{{Cond: []api.Expr{x}}}})); e != api.ErrArg || len(b) != 0 {
			t.Errorf("Put = %d bytes, %d", len(b), e)
		}
	}
	wide := api.Duel{Links: times(4096, api.Link{Picks: times(4096, -1<<31)})}
	if b, e := save.Put(wide); e != api.ErrArg || len(b) != 0 {
		t.Errorf("Put = %d bytes, %d", len(b), e)
	}
	if want, _ := written(reflect.ValueOf(wide)); save.Digest(wide) != sum(want) {
		t.Errorf("Digest = %d", save.Digest(wide))
	}
	wide.Dies = make([]int, 1<<22)
	if b, e := save.Put(wide); e != api.ErrArg || len(b) != 0 || save.Digest(wide) != 0 {
		t.Errorf("Put = %d bytes, %d", len(b), e)
	}
	wide.Links = times(1<<18, wide.Links[0])
	if b, e := save.Put(wide); e != api.ErrArg || len(b) != 0 || save.Digest(wide) != 0 {
		t.Errorf("Put = %d bytes, %d", len(b), e)
	}
}
