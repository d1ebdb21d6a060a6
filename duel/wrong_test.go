package duel_test

import (
	"math"
	"math/rand/v2"
	"reflect"
	"testing"
	"time"

	"joust/api"
	"joust/duel"
)

// triedAll calls all of a duel's calls: it asks for nothing, but that with an error the duel is as it was.
func triedAll(t *testing.T, d api.Duel) map[api.Errno]int {
	t.Helper()
	count := map[api.Errno]int{}
	p := duel.Ask(d)
	n := len(p.Options)
	for _, n := range []int{math.MinInt, -1, 0, 1, n / 2, n - 1, n, math.MaxInt} {
		x, e := duel.Decide(d, n)
		count[e]++
		if e != api.OK && !duel.Same(x, d) {
			t.Errorf("Decide(%d) = %d changed %+v", n, e, bare(d))
		}
		if (n < 0 || n >= len(p.Options)) && e == api.OK {
			t.Errorf("Decide(%d) of %v", n, p)
		}
		if e != api.OK && e != api.ErrArg && e != api.ErrState {
			t.Errorf("Decide(%d) = %d", n, e)
		}
	}
	return count
}

// P17.1: duels that were made otherwise end without a panic, at whatever stage.
func TestWrongDuels(t *testing.T) {
	for i, change := range []func(d *api.Duel){
		func(d *api.Duel) { *d = api.Duel{} },
		func(d *api.Duel) { *d = api.Duel{Stage: d.Stage, Then: d.Then, Lots: 9, Passes: 1, Due: true} },
		func(d *api.Duel) { d.Table.Pieces = nil },
		func(d *api.Duel) { d.Table.Kinds = nil },
		func(d *api.Duel) { d.Table.Player = 2 },
		func(d *api.Duel) { d.Table.Turn = math.MaxInt },
		func(d *api.Duel) { d.Table.Turn = 0 },
		func(d *api.Duel) { d.Table.Life = [2]int{-1, math.MaxInt} },
		func(d *api.Duel) { d.Table.Moment = math.MaxInt },
		func(d *api.Duel) { d.Lots, d.Whose = math.MaxInt, 0 },
		func(d *api.Duel) { d.Lots = math.MinInt },
		func(d *api.Duel) { d.Whose = 255 },
		func(d *api.Duel) { d.Asked = 7 },
		func(d *api.Duel) { d.Passes = math.MaxInt },
		func(d *api.Duel) { d.Rounds = math.MaxInt },
		func(d *api.Duel) { d.Trying, d.Try = true, math.MaxInt },
		func(d *api.Duel) { d.Trying, d.Try = true, math.MinInt },
		func(d *api.Duel) { d.Attacker, d.Target = math.MaxInt, math.MaxInt },
		func(d *api.Duel) { d.Attacker, d.Target = math.MinInt, math.MinInt },
		func(d *api.Duel) { d.Target = -2 },
		func(d *api.Duel) { d.Dies = []int{math.MinInt, -1, 0, mine, mine, theirs, math.MaxInt} },
		func(d *api.Duel) { d.Choice.Ready.Piece = -1 },
		func(d *api.Duel) { d.Choice.Ready.Effect = 99 },
		func(d *api.Duel) { d.Choice.Ready.Who = 99 },
		func(d *api.Duel) { d.Choice.Picks = make([]int, 1<<20) },
		func(d *api.Duel) { d.Waits = []api.Ready{{Piece: -1}, {Who: 9, Piece: 99}} },
		func(d *api.Duel) { d.Waits = make([]api.Ready, 1<<13) },
		func(d *api.Duel) { d.Links = make([]api.Link, 1<<13) },
		func(d *api.Duel) {
			d.Links = []api.Link{{Who: 9, Piece: -1, Effect: -1, Picks: []int{-5}}, {Piece: 1 << 40}}
		},
		func(d *api.Duel) { d.Recent = make([]api.Event, 1<<13) },
		func(d *api.Duel) { d.Table.Events = make([]api.Event, 1<<13) },
		func(d *api.Duel) { d.Table.Lost = [2]bool{true, true} },
		func(d *api.Duel) { d.Ordered, d.Due, d.Passes = true, true, 1 },
	} {
		start := time.Now()
		for _, d := range stages(t) {
			change(&d)
			triedAll(t, d)
		}
		if d := time.Since(start); d > 20*time.Second {
			t.Errorf("%d: it took %v", i, d)
		}
	}
}

// P17.1: where what is kept is none, nothing is decided.
func TestNoThen(t *testing.T) {
	g := ready(t, pool(), nil, nil)
	g.does(end)
	for _, then := range []uint8{api.ThenDrop + 1, 77, 255} {
		d := duel.Copy(g.d)
		d.Then, d.Passes = then, 1
		if x, e := duel.Decide(d, 0); e != api.ErrState || !duel.Same(x, d) {
			t.Errorf("Decide = %d, %+v", e, bare(x))
		}
	}
}

// P17.1: a piece that is put where no place is leaves the duel as it was.
func TestNoPlace(t *testing.T) {
	g := ready(t, pool(), []int{rain}, nil)
	g.put(mine, api.Back, 0, true, false)
	d := duel.Copy(g.d)
	d.Stage, d.Passes, d.Then, d.Dies = api.AtAnswer, 1, api.ThenDeaths, []int{0}
	d.Table.Pieces[0].Zone, d.Table.Pieces[0].Has = api.Row, 9
	if x, e := duel.Decide(d, 0); e == api.OK || !duel.Same(x, d) {
		t.Errorf("Decide = %d, %+v", e, bare(x))
	}
}

// spoiled changes one number, text or truth of a duel, by lot.
func (l lots) spoiled(d api.Duel) api.Duel {
	count := 0
	leaves(reflect.ValueOf(&d).Elem(), "", func(string, reflect.Value) { count++ })
	chosen := l.IntN(count)
	if l.yes(2) { // most of them are of the kinds
		chosen = count - 1 - l.IntN(50)
	}
	at := 0
	leaves(reflect.ValueOf(&d).Elem(), "", func(_ string, v reflect.Value) {
		if at == chosen {
			l.spoil(v)
		}
		at++
	})
	return d
}

func (l lots) spoil(v reflect.Value) {
	switch v.Kind() {
	case reflect.Int:
		v.SetInt([]int64{math.MinInt, -2, -1, 0, 1, 2, 7, 30, 99999, math.MaxInt}[l.IntN(10)])
	case reflect.Uint8:
		v.SetUint(uint64([]uint8{0, 1, 2, 3, 4, 5, 6, 7, 8, 255}[l.IntN(10)]))
	default:
		other(v)
	}
}

// P17.1: duels that were played by lot, and changed in some places, end without a panic.
func TestSpoiledByLot(t *testing.T) {
	lot := lots{rand.New(rand.NewPCG(17, 2))}
	count := map[api.Errno]int{}
	for range 40 {
		kinds := lot.kinds()
		d, _ := duel.Begin(kinds, lot.decks(len(kinds)))
		for range 300 {
			p := duel.Ask(d)
			if len(p.Options) == 0 {
				break
			}
			if d.Stage != api.AtLot || lot.yes(20) {
				x := duel.Copy(d)
				for range 1 + lot.IntN(3) {
					x = lot.spoiled(x)
				}
				for e, n := range triedAll(t, x) {
					count[e] += n
				}
			}
			d, _ = duel.Decide(d, lot.number(p.Options))
		}
	}
	if count[api.OK] < 1000 || count[api.ErrArg] < 1000 || count[api.ErrState] < 100 {
		t.Errorf("answers: %v", count)
	}
}
