package cards

import (
	"math/rand/v2"
	"reflect"
	"testing"
	"unsafe"

	"joust/api"
)

// toldOut is how many bytes all lists below v come to.
func toldOut(v reflect.Value) int {
	bytes := 0
	switch v.Kind() {
	case reflect.Struct:
		for i := range v.NumField() {
			bytes += toldOut(v.Field(i))
		}
	case reflect.Slice:
		bytes = v.Len() * int(v.Type().Elem().Size())
		for i := range v.Len() {
			bytes += toldOut(v.Index(i))
		}
	}
	return bytes
}

// A size is never more than it is, or what may be answered would not be copied.
func TestSizes(t *testing.T) {
	if cardSize > unsafe.Sizeof(api.Card{}) || effectSize > unsafe.Sizeof(api.Effect{}) || stepSize > unsafe.Sizeof(api.Step{}) || exprSize > unsafe.Sizeof(api.Expr{}) {
		t.Errorf("%d, %d, %d, %d", unsafe.Sizeof(api.Card{}), unsafe.Sizeof(api.Effect{}), unsafe.Sizeof(api.Step{}), unsafe.Sizeof(api.Expr{}))
	}
}

// byLot is cards whose lists stand in many places, by lot.
func byLot(lot *rand.Rand) []api.Card {
	lists := [][]api.Expr{nil}
	some := func() []api.Expr { return lists[len(lists)-1-lot.IntN(min(len(lists), 4))] }
	for range 1 + lot.IntN(20) {
		l := make([]api.Expr, lot.IntN(4))
		for i := range l {
			l[i].Args = some()
		}
		lists = append(lists, l, l[:len(l)/2])
	}
	steps := make([]api.Step, lot.IntN(4))
	for i := range steps {
		steps[i].N.Args = some()
	}
	effects := make([]api.Effect, lot.IntN(4))
	for i := range effects {
		effects[i] = api.Effect{Cond: some(), Steps: steps[lot.IntN(len(steps)+1):]}
	}
	l := make([]api.Card, lot.IntN(4))
	for i := range l {
		l[i].Effects = effects[lot.IntN(len(effects)+1):]
	}
	return l
}

// What is taken is what all lists come to, told out.
func TestSizer(t *testing.T) {
	lot := rand.New(rand.NewPCG(6, 21))
	large := 0
	for range 20000 {
		l := byLot(lot)
		want := toldOut(reflect.ValueOf(l))
		for _, left := range []int{want, want + 8, max(0, want-1), want / 2} {
			for _, s := range []sizer{{left: left}, {left: left, found: map[list]int{}}} {
				if ok := s.cards(l); ok != (left >= want) || ok && s.left != left-want {
					t.Fatalf("%d of %d: %v, %d left", want, left, ok, s.left)
				}
			}
		}
		if want > 2000 {
			large++
		}
	}
	if large < 500 {
		t.Errorf("%d were large", large)
	}
}

// filled is a card of one effect that needs expressions of so many bytes, all in all, told out; and one more.
func filled(bytes, more int) []api.Card {
	bytes -= cardSize + effectSize
	var need, l []api.Expr
	sizes, lists := []int{}, [][]api.Expr{}
	for size := 2 * exprSize; size < bytes; size = 2*size + 2*exprSize {
		l = []api.Expr{{Op: api.ExAdd, Args: l}, {Op: api.ExAdd, Args: l}}
		sizes, lists = append(sizes, size), append(lists, l)
	}
	for i := len(lists) - 1; i >= 0; i-- {
		for bytes >= sizes[i]+exprSize {
			need = append(need, api.Expr{Args: lists[i]})
			bytes -= sizes[i] + exprSize
		}
	}
	need = append(need, make([]api.Expr, bytes/exprSize+more)...)
	return []api.Card{{Effects: []api.Effect{{Cond: need}}}}
}

// What fits is what a call may answer, up to the last byte.
func TestFits(t *testing.T) {
	for _, bytes := range []int{1000, 1 << 20, 1 << 27, 1 << 30, 1<<31 - 1} {
		if !fits(filled(bytes, 0)) {
			t.Errorf("%d bytes don't fit", bytes)
		}
		if fits(filled(bytes, 1)) != (bytes < 1<<31-1) {
			t.Errorf("%d bytes, and some more", bytes)
		}
	}
	for _, few := range [][]api.Card{nil, {}, {{}}, {{Effects: []api.Effect{{}}}}} {
		if !fits(few) {
			t.Errorf("%v doesn't fit", few)
		}
	}
}
