package move_test

import (
	"math"
	"math/rand/v2"
	"reflect"
	"slices"
	"sync"
	"testing"
	"time"

	"joust/api"
	"joust/duel"
	"joust/move"
)

// triedAll calls all calls of a duel, and asks that what they answer fits together.
func triedAll(t *testing.T, d api.Duel) map[api.Errno]int {
	t.Helper()
	count, options, texts := map[api.Errno]int{}, duel.Ask(d).Options, move.All(d)
	if len(texts) != len(options) {
		t.Fatalf("All = %q of %v", texts, options)
	}
	for _, n := range []int{math.MinInt, -1, 0, 1, len(options) / 2, len(options) - 1, len(options), math.MaxInt} {
		s, e := move.Text(d, n)
		count[e]++
		want := api.ErrArg
		switch {
		case len(options) == 0:
			want = api.ErrState
		case n >= 0 && n < len(options) && texts[n] != "":
			want = api.OK
			if s != texts[n] {
				t.Fatalf("Text(%d) = %q, not %q", n, s, texts[n])
			}
			if i, e := move.Parse(d, s); i != slices.Index(texts, s) || e != api.OK {
				t.Fatalf("Parse(%q) = %d, %d", s, i, e)
			}
		}
		if e != want || e != api.OK && s != "" {
			t.Fatalf("Text(%d) = %q, %d; not %d", n, s, e, want)
		}
	}
	if _, e := move.Parse(d, ""); e != api.ErrNone && e != api.ErrState {
		t.Fatalf("Parse() = %d", e)
	}
	for who := range uint8(3) {
		for _, id := range []int{-1, 0, 1, len(d.Table.Pieces) - 1, len(d.Table.Pieces)} {
			s, ok := move.Where(d.Table, who, id)
			if n, found := move.Find(d.Table, who, s); found != ok || ok && n != id || ok != (s != "") {
				t.Fatalf("Where(%d, %d) = %q, %t; Find = %d, %t", who, id, s, ok, n, found)
			}
		}
	}
	return count
}

// Rule 1: each call ends without a panic, whatever the duel is, and soon.
func TestWrongDuels(t *testing.T) {
	start := time.Now()
	for _, change := range []func(d *api.Duel){
		func(d *api.Duel) {},
		func(d *api.Duel) { *d = api.Duel{Stage: d.Stage} },
		func(d *api.Duel) { *d = api.Duel{Stage: d.Stage, Lots: 9, Table: api.Table{Turn: 1}} },
		func(d *api.Duel) { d.Table.Pieces = nil },
		func(d *api.Duel) { d.Table.Kinds = nil },
		func(d *api.Duel) { d.Table.Player = 2 },
		func(d *api.Duel) { d.Table.Turn = math.MaxInt },
		func(d *api.Duel) { d.Table.Turn = 0 },
		func(d *api.Duel) { d.Lots, d.Whose = math.MaxInt, 1 },
		func(d *api.Duel) { d.Lots = math.MinInt },
		func(d *api.Duel) { d.Whose = 255 },
		func(d *api.Duel) { d.Asked = 7 },
		func(d *api.Duel) { d.Choice.Ready = api.Ready{Who: 99, Piece: -1, Effect: 99} },
		func(d *api.Duel) { d.Choice.Ready = api.Ready{Piece: 1}; d.Choice.Picks = make([]int, 1<<16) },
		func(d *api.Duel) {
			d.Waits = []api.Ready{{Piece: -1}, {Piece: math.MinInt}, {Piece: math.MaxInt, Effect: math.MinInt}, {Piece: 1, Effect: math.MaxInt}}
		},
		func(d *api.Duel) { d.Waits = []api.Ready{{Who: 9, Piece: 1, Must: true}} },
		func(d *api.Duel) { d.Waits = make([]api.Ready, 1<<16) },
		func(d *api.Duel) { d.Links = []api.Link{{Who: 9, Piece: -1, Effect: -1, Picks: []int{-5}}} },
		func(d *api.Duel) { d.Recent = make([]api.Event, 1<<16) },
		func(d *api.Duel) { d.Table.Kinds = append(d.Table.Kinds, make([]api.Card, 1<<16)...) },
		func(d *api.Duel) { d.Table.Pieces = append(d.Table.Pieces, make([]api.Piece, 1<<16)...) },
	} {
		for stage := range 256 {
			d := laid(t)
			d.Stage = uint8(stage)
			change(&d)
			triedAll(t, d)
		}
	}
	if d := time.Since(start); d > time.Minute {
		t.Errorf("it took %v", d)
	}
}

// leaves calls f with each number and truth in v.
func leaves(v reflect.Value, f func(v reflect.Value)) {
	switch v.Kind() {
	case reflect.Struct:
		for i := range v.NumField() {
			leaves(v.Field(i), f)
		}
	case reflect.Array, reflect.Slice:
		for i := range v.Len() {
			leaves(v.Index(i), f)
		}
	case reflect.Int, reflect.Uint8, reflect.Bool:
		f(v)
	}
}

// Rules 1 and 8: duels that were played by lot, and of which one thing is something else.
func TestSpoiledDuels(t *testing.T) {
	lot := lots{rand.New(rand.NewPCG(21, 2))}
	kinds, count := pool(t), map[api.Errno]int{}
	for range 10 {
		d := begun(t, kinds, lot.deck(len(kinds)), lot.deck(len(kinds)))
		for range 300 {
			options := duel.Ask(d).Options
			if len(options) == 0 {
				break
			}
			if d.Stage != api.AtLot || lot.yes(20) {
				for range 3 {
					for e, n := range triedAll(t, lot.spoiled(d)) {
						count[e] += n
					}
				}
			}
			d = decided(t, d, lot.number(options, false))
		}
	}
	if count[api.OK] < 1000 || count[api.ErrArg] < 1000 || count[api.ErrState] < 50 {
		t.Errorf("answers: %v", count)
	}
}

// spoiled changes one number or truth of a duel, by lot; mostly not of the kinds.
func (l lots) spoiled(d api.Duel) api.Duel {
	d = duel.Copy(d)
	var all []reflect.Value
	leaves(reflect.ValueOf(&d).Elem(), func(v reflect.Value) { all = append(all, v) })
	rest := len(all)
	leaves(reflect.ValueOf(&d.Table.Kinds).Elem(), func(reflect.Value) { rest-- })
	v := all[l.IntN(len(all))]
	if !l.yes(4) {
		v = all[len(all)-1-l.IntN(rest)]
	}
	switch v.Kind() {
	case reflect.Bool:
		v.SetBool(!v.Bool())
	case reflect.Int:
		v.SetInt([]int64{math.MinInt, -2, -1, 0, 1, 2, 7, 30, 99999, math.MaxInt}[l.IntN(10)])
	default:
		v.SetUint(uint64([]uint8{0, 1, 2, 3, 4, 5, 6, 7, 8, 255}[l.IntN(10)]))
	}
	return d
}

// Rule 8: calls at one time answer what each one answers alone, of one duel that stays as it is.
func TestAtOneTime(t *testing.T) {
	d := laid(t)
	want := move.All(d)
	var group sync.WaitGroup
	for range 8 {
		group.Add(1)
		go func() {
			defer group.Done()
			for n, s := range move.All(d) {
				i, e := move.Parse(d, s)
				if text, f := move.Text(d, n); s != want[n] || text != s || i != n || e != api.OK || f != api.OK {
					t.Errorf("%d: %q, %q, %d, %d, %d", n, s, text, i, e, f)
				}
			}
		}()
	}
	group.Wait()
	if !duel.Same(d, laid(t)) {
		t.Error("the duel changed")
	}
}
