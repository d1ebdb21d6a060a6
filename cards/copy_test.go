package cards_test

import (
	"cmp"
	"reflect"
	"slices"
	"testing"
	"time"

	"joust/api"
	"joust/cards"
)

// stretch is the memory of a list, with the room behind its end.
type stretch struct{ from, to uintptr }

// stretches are those of all the lists in v.
func stretches(v reflect.Value) (l []stretch) {
	switch v.Kind() {
	case reflect.Struct:
		for i := range v.NumField() {
			l = append(l, stretches(v.Field(i))...)
		}
	case reflect.Slice:
		if v.Cap() > 0 {
			l = append(l, stretch{v.Pointer(), v.Pointer() + uintptr(v.Cap())*v.Type().Elem().Size()})
		}
		for i := range v.Len() {
			l = append(l, stretches(v.Index(i))...)
		}
	}
	return l
}

// apart tells whether no two of them share anything.
func apart(l []stretch) bool {
	slices.SortFunc(l, func(a, b stretch) int { return cmp.Compare(a.from, b.from) })
	for i := 1; i < len(l); i++ {
		if l[i].from < l[i-1].to {
			return false
		}
	}
	return true
}

// shared are cards whose lists stand in many places, with room behind their ends.
func shared() []api.Card {
	numbers := append(make([]api.Expr, 0, 9), api.Expr{N: 1}, api.Expr{N: 2})
	sums := []api.Expr{{Op: api.ExAdd, Args: numbers}, {Op: api.ExSub, Args: numbers}, {Op: api.ExNot, Args: numbers[:1]}, {Args: numbers[:0]}}
	twice := []api.Expr{{Op: api.ExMul, Args: sums}, {Op: api.ExMul, Args: sums}}
	steps := []api.Step{{Do: api.StHeal, N: api.Expr{Op: api.ExAdd, Args: twice}}, {N: api.Expr{Args: sums}}, {N: api.Expr{Args: numbers}}, {N: api.Expr{Args: numbers[:0]}}}
	effects := []api.Effect{{Mode: api.Act, Cond: twice, Steps: steps}, {Cond: sums, Steps: steps[:2]}, {Cond: sums[:0], Steps: steps[:0]}}
	return []api.Card{{Name: "a", Level: 3, Effects: effects}, {Name: "b", Attack: 4, Effects: effects}, {Kind: api.Trap, Guard: 5, Effects: effects[:1]}, {Effects: effects[:0]}}
}

func TestCopy(t *testing.T) {
	l := shared()
	first, second := cards.Copy(l), cards.Copy(l)
	if !cards.Same(first, l) || !cards.Same(l, second) || !reflect.DeepEqual(l, shared()) {
		t.Errorf("Copy(%v) = %v", l, first)
	}
	both := append(stretches(reflect.ValueOf(first)), stretches(reflect.ValueOf(second))...)
	if len(both) != 2*len(stretches(reflect.ValueOf(first))) || len(both) < 200 || !apart(both) {
		t.Errorf("%d lists share memory", len(both))
	}
	for _, old := range stretches(reflect.ValueOf(l)) {
		if !apart(append(slices.Clone(both), old)) {
			t.Fatal("a copy shares memory with what was copied")
		}
	}
	for _, none := range [][]api.Card{nil, {}, l[:0]} {
		if c := cards.Copy(none); len(c) != 0 || cap(c) != 0 {
			t.Errorf("Copy of nothing = %v", c)
		}
	}
}

// A long list of cards is copied apart, though there are very many expressions, if each list stands in one place.
func TestCopyOfMany(t *testing.T) {
	var l []api.Card
	for i := range 1100 {
		wide := make([]api.Expr, 1000)
		for at := range wide {
			wide[at].N = i
		}
		l = append(l, api.Card{Effects: []api.Effect{{Cond: []api.Expr{{Args: wide}}}}})
	}
	first := cards.Copy(l)
	if !cards.Same(first, l) {
		t.Error("Copy is not the same")
	}
	if all := append(stretches(reflect.ValueOf(first)), stretches(reflect.ValueOf(l))...); len(all) != 2*(1+1100*3) || !apart(all) {
		t.Errorf("%d lists share memory", len(all))
	}
}

// inside is a card in which lists stand within each other.
func inside(size, last int) []api.Card {
	l := make([]api.Expr, size)
	for i := range l {
		l[i] = api.Expr{N: i, Args: l[i/2:]}
	}
	l[size-1].N = last
	return []api.Card{{Name: "a", Effects: []api.Effect{{Cond: l, Steps: []api.Step{{N: api.Expr{Args: l[1:]}}}}}}}
}

// Copy ends on lists that stand within themselves; what was copied stays as it is.
func TestCopyOfWhatStandsWithinItself(t *testing.T) {
	for _, size := range []int{1, 2, 3, 9, 1000} {
		l := inside(size, 7)
		copied := l
		for range 5 {
			copied = cards.Copy(copied)
		}
		if !cards.Same(copied, l) || !cards.Same(copied, inside(size, 7)) || cards.Same(copied, inside(size, 8)) {
			t.Errorf("%d: Copy is not the same", size)
		}
		copied[0].Name = "b"
		if !cards.Same(l, inside(size, 7)) {
			t.Errorf("%d: what was copied changed", size)
		}
	}
}

// nested is an expression in which each list stands in two places of the one above it.
func nested(deep, inside int) api.Expr {
	x := api.Expr{N: inside}
	for range deep {
		x = api.Expr{Op: api.ExAdd, Args: []api.Expr{x, x}}
	}
	return x
}

// unit is a card that needs these expressions.
func unit(need ...api.Expr) api.Card {
	return api.Card{Effects: []api.Effect{{Cond: need}}}
}

// Copy is apart as long as it is no more than a call may answer.
func TestCopyOfWhatStandsInManyPlaces(t *testing.T) {
	for _, deep := range []int{1, 10, 16, 20} {
		l := []api.Card{unit(nested(deep, 1))}
		copied := cards.Copy(l)
		if !cards.Same(copied, l) || cards.Same(copied, []api.Card{unit(nested(deep, 2))}) {
			t.Errorf("%d deep: Copy is not the same", deep)
		}
		if all := stretches(reflect.ValueOf(copied)); len(all) != 1<<deep+2 || !apart(all) {
			t.Errorf("%d deep: lists of a copy share memory", deep)
		}
		copied[0].Effects[0].Cond[0].Args[0].N = 9
		if cards.Same(copied, l) || !cards.Same(l, []api.Card{unit(nested(deep, 1))}) {
			t.Errorf("%d deep: a copy shares memory with what was copied", deep)
		}
	}
}

// blown is cards that hold one list of effects, which hold one list of steps: few of them by memory, very many told out.
func blown(count, last int) []api.Card {
	steps := make([]api.Step, count)
	steps[count-1].N.N = last
	effects := make([]api.Effect, count)
	for i := range effects {
		effects[i].Steps = steps
	}
	l := make([]api.Card, count)
	for i := range l {
		l[i].Effects = effects
	}
	return l
}

// Copy and Same end, and soon, on what is more than a call may answer.
func TestCopyOfTooMuch(t *testing.T) {
	wide := func(inside int) []api.Card {
		l := []api.Expr{{N: inside}}
		for range 6 {
			outer := make([]api.Expr, 100000)
			for i := range outer {
				outer[i].Args = l
			}
			l = outer
		}
		return []api.Card{unit(l...)}
	}
	for i, of := range []func(n int) []api.Card{
		func(n int) []api.Card { return []api.Card{unit(nested(26, n))} },
		func(n int) []api.Card { return []api.Card{unit(nested(100, n))} },
		func(n int) []api.Card { return []api.Card{unit(), unit(nested(10000, n))} },
		func(n int) []api.Card { return blown(400, n) },
		func(n int) []api.Card { return blown(100000, n) },
		func(n int) []api.Card { return inside(100, n) },
		wide,
	} {
		l := of(1)
		start := time.Now()
		copied := cards.Copy(l)
		if !cards.Same(copied, l) || !cards.Same(copied, of(1)) || cards.Same(copied, of(2)) {
			t.Errorf("%d: Copy is not the same", i)
		}
		if d := time.Since(start); d > 10*time.Second {
			t.Errorf("%d: it took %v", i, d)
		}
	}
}

// Copy ends on what is deeper than calls may go.
func TestCopyOfDepth(t *testing.T) {
	for _, deep := range []int{1000, 1<<20 + 9} {
		l := []api.Card{{Effects: []api.Effect{{Cond: make([]api.Expr, 1)}}}}
		at := l[0].Effects[0].Cond
		for range deep {
			at[0].Args = make([]api.Expr, 1)
			at = at[0].Args
		}
		if copied := cards.Copy(l); !cards.Same(copied, l) {
			t.Errorf("%d deep: Copy is not the same", deep)
		}
	}
}

// Bare tells of each card what kind it is, and nothing else of it.
func TestBare(t *testing.T) {
	l := []api.Card{{Name: "a", Kind: api.Trap, Effects: make([]api.Effect, 1)}, {Level: 1, Attack: 2, Guard: 3}, {Kind: 99}}
	if bare := cards.Bare(l); !cards.Same(bare, []api.Card{{Kind: api.Trap}, {}, {Kind: 99}}) {
		t.Errorf("Bare = %+v", bare)
	}
	if bare := cards.Bare(nil); len(bare) != 0 {
		t.Errorf("Bare = %+v", bare)
	}
}
