package print_test

import (
	"math"
	"reflect"
	"strconv"
	"strings"
	"testing"

	"joust/api"
	"joust/parse"
	"joust/print"
)

const pool = `
unit ogre 4 1800 7 {
	swift upon end self needs (< 1 life any) needs (and 1 power) pays 500 drops 1 spends picks 2 theirs back trap:
		destroy; boost (- 1 count any hand all) theirs row unit; draw theirs (* 2 3);
	must upon destroy theirs: negate;
}
trap pit { play upon attack theirs: damage theirs 500; }`

func read(t *testing.T, text string) []api.Card {
	t.Helper()
	l, f := parse.Pool(text)
	if f != (api.Fault{}) {
		t.Fatalf("Pool = %v", f)
	}
	return l
}

// P3.2: cards are the same as what is read from their text once more.
func TestSame(t *testing.T) {
	a, b := read(t, pool), read(t, pool)
	if !print.Same(a, b) || !print.Same(a, a) || !print.Same(b, a) {
		t.Errorf("Same(%v, %v)", a, b)
	}
	if print.Same(a, []api.Card{b[1], b[0]}) {
		t.Error("Same of cards in another order")
	}
	x, y := api.Effect{Mode: api.Act}, api.Effect{Mode: api.Swift}
	if print.Same([]api.Card{{Effects: []api.Effect{x, y}}}, []api.Card{{Effects: []api.Effect{y, x}}}) {
		t.Error("Same of effects in another order")
	}
}

// eachChange changes one thing of what v holds at a time, tells it, and puts it back.
func eachChange(v reflect.Value, path string, told func(path string)) {
	was := reflect.New(v.Type()).Elem()
	was.Set(v)
	set := func(what string, to reflect.Value) {
		v.Set(to)
		told(path + what)
		v.Set(was)
	}
	switch v.Kind() {
	case reflect.Struct:
		for i := range v.NumField() {
			eachChange(v.Field(i), path+"."+v.Type().Field(i).Name, told)
		}
	case reflect.Slice:
		for i := range v.Len() {
			eachChange(v.Index(i), path+"[]", told)
		}
		more := reflect.MakeSlice(v.Type(), v.Len()+1, v.Len()+1)
		reflect.Copy(more, v)
		set(" and one more", more)
		if v.Len() > 0 {
			set(" without the last", v.Slice(0, v.Len()-1))
			set(" without the first", v.Slice(1, v.Len()))
			set(" without any", reflect.Zero(v.Type()))
		}
	case reflect.String:
		for _, to := range []string{was.String() + "x", "", "a b", "7", strings.Repeat("w", api.MaxWord+1)} {
			set(" = "+to, reflect.ValueOf(to))
		}
	case reflect.Bool:
		set("", reflect.ValueOf(!v.Bool()))
	case reflect.Int:
		n := int(v.Int())
		for _, to := range []int{n + 1, -n - 1, n + 1<<32, -1, 0, 1, api.MaxNumber, api.MaxNumber + 1, math.MinInt, math.MaxInt} {
			if to != n {
				set(" = "+strconv.Itoa(to), reflect.ValueOf(to))
			}
		}
	case reflect.Uint8:
		n := uint8(v.Uint())
		for _, to := range []uint8{0, 1, 2, 3, 4, 5, 6, 7, 8, 9, 10, 11, 12, n + 1, n + 128, 255} {
			if to != n {
				set(" = "+strconv.Itoa(int(to)), reflect.ValueOf(to))
			}
		}
	}
}

// P3.2: cards that differ in anything are not the same, on neither side.
func TestNotTheSame(t *testing.T) {
	a, b := read(t, pool), read(t, pool)
	count := 0
	eachChange(reflect.ValueOf(&a).Elem(), "", func(path string) {
		count++
		if print.Same(a, b) || print.Same(b, a) {
			t.Errorf("Same, but for cards%s", path)
		}
		if !print.Same(a, a) {
			t.Errorf("not the same as itself: cards%s", path)
		}
	})
	if count < 300 || !print.Same(a, b) {
		t.Errorf("%d changes; Same = %v", count, print.Same(a, b))
	}
}

// P3.2: a list that is nil and one without elements are the same.
func TestSameOfNothing(t *testing.T) {
	none := func() []api.Card { return []api.Card{{Name: "a", Effects: []api.Effect{{Steps: []api.Step{{}}}}}} }
	a, b := none(), none()
	b[0].Effects[0].Cond = []api.Expr{}
	b[0].Effects[0].Steps[0].N.Args = []api.Expr{}
	if !print.Same(a, b) || !print.Same(b, a) {
		t.Errorf("Same(%v, %v) = false", a, b)
	}
	a[0].Effects, b[0].Effects = nil, []api.Effect{}
	if !print.Same(a, b) || !print.Same(nil, []api.Card{}) || !print.Same(nil, nil) {
		t.Error("Same of nothing = false")
	}
	if print.Same(nil, a) || print.Same(a, nil) || print.Same([]api.Card{{}}, nil) {
		t.Error("Same of something and nothing = true")
	}
}

func needs(x api.Expr) []api.Card {
	return []api.Card{{Effects: []api.Effect{{Cond: []api.Expr{x}}}}}
}

func gives(x api.Expr) []api.Card {
	return []api.Card{{Effects: []api.Effect{{Steps: []api.Step{{N: x}}}}}}
}

// nested is an expression that holds the same list, or two of the same, at each depth.
func nested(deep, wide, inside int) api.Expr {
	x := api.Expr{N: inside}
	for range deep {
		l := make([]api.Expr, wide)
		for i := range l {
			l[i] = x
		}
		x = api.Expr{Op: api.ExAdd, Args: l}
	}
	return x
}

// Same ends with whatever it is handed: what is deep, what stands in many places, what stands within itself.
func TestSameEnds(t *testing.T) {
	for _, size := range [][2]int{{1 << 17, 1}, {80, 2}} {
		a, b, other := nested(size[0], size[1], 1), nested(size[0], size[1], 1), nested(size[0], size[1], 2)
		if !print.Same(needs(a), needs(b)) || !print.Same(gives(a), gives(b)) {
			t.Errorf("Same of %v = false", size)
		}
		if print.Same(needs(a), needs(other)) || print.Same(gives(a), gives(other)) {
			t.Errorf("Same of %v with another number = true", size)
		}
	}
	loop := func(length, last int) api.Expr {
		l := make([]api.Expr, length)
		for i := range l {
			l[i].Args = l[(i+1)%length : (i+1)%length+1]
		}
		l[length-1].N = last
		return l[0]
	}
	if !print.Same(needs(loop(2, 0)), needs(loop(3, 0))) || !print.Same(gives(loop(3, 1)), gives(loop(3, 1))) {
		t.Error("Same of loops = false")
	}
	if print.Same(needs(loop(3, 1)), needs(loop(4, 1))) || print.Same(gives(loop(3, 1)), gives(loop(3, 2))) {
		t.Error("Same of other loops = true")
	}
}

// P3.2: a list that stands in two places is held against what stands at each of them, as far as it goes there.
func TestSameOfListsInTwoPlaces(t *testing.T) {
	of := func(lists ...[]api.Expr) []api.Card {
		e := api.Effect{}
		for _, l := range lists {
			e.Cond = append(e.Cond, api.Expr{Op: api.ExAdd, Args: l})
		}
		return []api.Card{{Effects: []api.Effect{e}}}
	}
	l, other := []api.Expr{{N: 1}, {N: 2}}, []api.Expr{{N: 1}, {N: 3}}
	for _, c := range []struct {
		a, b []api.Card
		want bool
	}{
		{of(l, l), of(l, []api.Expr{{N: 1}, {N: 2}}), true},
		{of(l, l), of(l, other), false},
		{of(l, l), of(other, l), false},
		{of(l[:1], l), of(other[:1], other), false},
		{of(l, l[:1]), of(other, other[:1]), false},
		{of(l[:1], l[:1]), of(other[:1], other[:1]), true},
	} {
		if print.Same(c.a, c.b) != c.want || print.Same(c.b, c.a) != c.want {
			t.Errorf("Same(%v, %v) = %v", c.a, c.b, !c.want)
		}
	}
}
