package tale_test

import (
	"reflect"
	"slices"
	"testing"

	"joust/api"
	"joust/tale"
)

// eachLeaf calls f with each number and text in v, by where it is.
func eachLeaf(v reflect.Value, f func(v reflect.Value)) {
	switch v.Kind() {
	case reflect.Struct:
		for i := range v.NumField() {
			eachLeaf(v.Field(i), f)
		}
	case reflect.Slice:
		for i := range v.Len() {
			eachLeaf(v.Index(i), f)
		}
	default:
		f(v)
	}
}

// Same is about each number, each note, and each list, in order.
func TestSame(t *testing.T) {
	s := "1 { a } (2 { b } 3 { c }) (4 { d }) 5 { e } (6 { f }) 7"
	l, count := of(t, s), 0
	if !tale.Same(l, of(t, s)) || !tale.Same(l, l) {
		t.Error("it is not the same")
	}
	eachLeaf(reflect.ValueOf(&l).Elem(), func(v reflect.Value) {
		was := reflect.New(v.Type()).Elem()
		was.Set(v)
		if v.Kind() == reflect.Int {
			v.SetInt(v.Int() + 10)
		} else {
			v.SetString(v.String() + "x")
		}
		if count++; tale.Same(l, of(t, s)) || tale.Same(of(t, s), l) {
			t.Errorf("it is the same, with %v", v)
		}
		v.Set(was)
	})
	if count != 14 || !tale.Same(l, of(t, s)) {
		t.Errorf("%d leaves", count)
	}
	others := []string{"", "1", "2", "1 2", "1 (2)", "2 (1)", "1 2 3", "1 (2) (3)", "1 (3) (2)", "1 (2 3)", "1 (2) 3", "1 (3) 2", "1 { 2 }", "1 { a } 2", "1 2 { a }"}
	for i, a := range others {
		for j, b := range others {
			if same := tale.Same(of(t, a), of(t, b)); same != (i == j) {
				t.Errorf("Same of %q and %q = %t", a, b, same)
			}
		}
	}
}

// Same is about tales that may not be, too; lists that are nil are those without elements.
func TestSameOfAny(t *testing.T) {
	if !tale.Same(nil, []api.Node{}) || !tale.Same([]api.Node{node(1, "")}, []api.Node{{N: 1, Kids: []api.Node{}}}) {
		t.Error("a list without elements is not the same")
	}
	wrong, again := wrongTales(), wrongTales()
	for what, l := range wrong {
		if !tale.Same(l, again[what]) || !tale.Same(l, l) {
			t.Errorf("%s: it is not the same", what)
		}
		for other, x := range again {
			if what != other && tale.Same(l, x) {
				t.Errorf("%s is the same as %s", what, other)
			}
		}
	}
}

// ring is nodes behind each other, of which the last one leads back to the first one.
func ring(size, last int) []api.Node {
	first := make([]api.Node, 1)
	at := first
	for range size - 1 {
		at[0].Kids = make([]api.Node, 1)
		at = at[0].Kids
	}
	at[0] = api.Node{N: last, Kids: first}
	return first
}

// Rule 1: Same ends on what stands within itself, and tells what can be told of it.
func TestSameOfRings(t *testing.T) {
	for _, sizes := range [][2]int{{1, 1}, {1, 2}, {2, 3}, {7, 7}, {64, 81}, {100000, 100001}, {1 << 17, 1}, {1, 1 << 17}} {
		if !tale.Same(ring(sizes[0], 0), ring(sizes[1], 0)) {
			t.Errorf("rings of %v are not the same", sizes)
		}
		if tale.Same(ring(sizes[0], 0), ring(sizes[1], 1)) {
			t.Errorf("rings of %v are the same", sizes)
		}
	}
	if !tale.Same(ring(6, 1), ring(6, 1)) || tale.Same(ring(6, 1), ring(3, 1)) {
		t.Error("rings of a number")
	}
	around := []api.Node{node(0, "", ring(5, 1)...)}
	if !tale.Same(around, []api.Node{node(0, "", ring(5, 1)...)}) || tale.Same(around, ring(5, 1)) || !tale.Same(around[0].Kids, ring(5, 1)) {
		t.Error("a ring behind a node")
	}
}

// Rule 1: Same ends, and soon, on what is deep, what is wide, and what stands in very many places.
func TestSameOfMany(t *testing.T) {
	deep := func(last int) []api.Node {
		l := []api.Node{node(last, "")}
		for range 1<<20 + 9 {
			l = []api.Node{{Kids: l}}
		}
		return l
	}
	wide := func(last int) []api.Node {
		l := []api.Node{node(last, "")}
		for range 5 {
			l = slices.Repeat([]api.Node{{Kids: l}}, 100000)
		}
		return l
	}
	twice := func(last int) []api.Node {
		l := []api.Node{node(last, "")}
		for range 5000 {
			l = []api.Node{{N: 1, Kids: l}, {N: 2, Kids: l}}
		}
		return l
	}
	inside := func(last int) []api.Node {
		l := make([]api.Node, 2000)
		for i := range l {
			l[i] = api.Node{N: i, Kids: l[i/2:]}
		}
		l[1999].N = last
		return l
	}
	for i, of := range []func(last int) []api.Node{deep, wide, twice, inside} {
		l := of(1)
		if !tale.Same(l, of(1)) || !tale.Same(l, l) || tale.Same(l, of(2)) || tale.Same(of(2), l) || tale.Same(l, l[:len(l)-1]) {
			t.Errorf("%d: Same", i)
		}
	}
}
