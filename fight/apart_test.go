package fight_test

import (
	"math"
	"reflect"
	"slices"
	"testing"
	"time"

	"joust/api"
	"joust/fight"
)

// roomy is a copy with room behind its end that holds something.
func roomy[T any](l []T, behind T) []T {
	l = append(slices.Clone(l), behind, behind, behind)
	return l[:len(l)-3]
}

// held is a table with room behind the end of its lists.
func held(t *testing.T) api.Table {
	t.Helper()
	x := table(t, row(0, 1, 500, 0), row(1, 0, 500, 0), of(lord, row(0, 0, 200, 0)), low(row(1, 3, 0, 400)))
	x.Pieces, x.Kinds = roomy(x.Pieces, row(1, 1, 9, 9)), roomy(x.Kinds, api.Card{Name: "behind"})
	x.Events = roomy([]api.Event{{Ev: api.EvAttack, Piece: 0}}, api.Event{Ev: api.EvEnd})
	return x
}

// What was handed in stays as it is, the room behind its end, too; what is answered is new memory.
func TestApart(t *testing.T) {
	x, y := held(t), held(t)
	unchanged := func() bool {
		return reflect.DeepEqual(x, y) && slices.Equal(x.Pieces[:cap(x.Pieces)], y.Pieces[:cap(y.Pieces)]) && slices.Equal(x.Events[:cap(x.Events)], y.Events[:cap(y.Events)]) && reflect.DeepEqual(x.Kinds[:cap(x.Kinds)], y.Kinds[:cap(y.Kinds)])
	}
	for who := range uint8(2) {
		first, again := fight.Attacks(x, who), fight.Attacks(x, who)
		want := slices.Clone(again)
		if len(first) < 3 || !slices.Equal(first, again) {
			t.Errorf("Attacks of %d = %v, then %v", who, first, again)
		}
		for i := range first[:cap(first)] {
			first[:cap(first)][i] = api.Option{Do: 77, Piece: 77, Arg: 77}
		}
		if !slices.Equal(again, want) || !unchanged() {
			t.Errorf("Attacks of %d share memory", who)
		}
	}
	x.Pieces[0].Attack, y.Pieces[0].Attack = 200, 200
	_, first, _ := fight.Outcome(x, 0, 1)
	_, again, _ := fight.Outcome(x, 0, 1)
	if !slices.Equal(first, []int{0, 1}) || !slices.Equal(again, first) {
		t.Fatalf("Outcome: %v, then %v", first, again)
	}
	for i := range first[:cap(first)] {
		first[:cap(first)][i] = 77
	}
	if !slices.Equal(again, []int{0, 1}) || !unchanged() {
		t.Error("outcomes share memory")
	}
}

// Each call ends, and in time, whatever kinds, events and boosts a table tells.
func TestCallsEnd(t *testing.T) {
	within := make([]api.Expr, 3)
	for i := range within {
		within[i] = api.Expr{Op: api.ExAdd, Args: within[i/2:]}
	}
	steps := make([]api.Step, 1000)
	for i := range steps {
		steps[i] = api.Step{Do: api.StBoost, All: true, N: api.Expr{N: math.MinInt, Args: within}, Sel: api.Sel{Side: uint8(i), Zone: api.Row, Kind: uint8(i)}}
	}
	effects := make([]api.Effect, 100)
	for i := range effects {
		effects[i] = api.Effect{Mode: api.Aura, Cond: within, Steps: steps}
	}
	var l []api.Piece
	for at := range api.Slots {
		l = append(l, boosted(math.MaxInt, row(0, at, 99999, 99999)), boosted(math.MinInt, row(1, at, 99999, 99999)))
	}
	x := table(t, l...)
	x.Kinds = []api.Card{{Effects: effects}}
	x.Events = make([]api.Event, 1<<16)
	x.Turn, x.Moment = math.MaxInt, math.MaxInt
	start := time.Now()
	for a := range l {
		for d := -1; d < len(l); d++ {
			fight.Outcome(x, a, d)
		}
		fight.Attacks(x, uint8(a))
	}
	comes(t, "the most against the least", x, 0, 1, [2]int{0, 99999}, 1)
	if d := time.Since(start); d > 20*time.Second {
		t.Errorf("it took %v", d)
	}
}
