package view_test

import (
	"math"
	"reflect"
	"testing"
	"time"

	"joust/api"
	"joust/duel"
	"joust/view"
)

// Rule 1: each call ends without a panic, whatever the duel is, and soon.
func TestWrongDuels(t *testing.T) {
	start := time.Now()
	for i, change := range []func(d *api.Duel){
		func(d *api.Duel) {},
		func(d *api.Duel) { *d = api.Duel{Stage: d.Stage, Lots: 9, Table: api.Table{Turn: 1}} },
		func(d *api.Duel) { d.Table.Turn = math.MaxInt },
		func(d *api.Duel) { d.Lots, d.Whose = math.MaxInt, 1 },
		func(d *api.Duel) { d.Lots = math.MinInt },
		func(d *api.Duel) { d.Whose = 255 },
		func(d *api.Duel) { d.Asked = 7 },
		func(d *api.Duel) { d.Choice.Ready = api.Ready{Who: 99, Piece: -1, Effect: 99} },
		func(d *api.Duel) { d.Choice.Picks = make([]int, 1<<16) },
		func(d *api.Duel) { d.Waits = []api.Ready{{Piece: -1}, {Piece: math.MinInt}, {Piece: math.MaxInt}} },
		func(d *api.Duel) { d.Waits = make([]api.Ready, 1<<16) },
		func(d *api.Duel) { d.Links = []api.Link{{Who: 9, Piece: -1, Effect: -1, Picks: []int{-5}}} },
		func(d *api.Duel) { d.Recent = make([]api.Event, 1<<16) },
		func(d *api.Duel) { d.Table.Pieces[1].Boost = math.MaxInt },
		func(d *api.Duel) { d.Table.Pieces[1].Boost = math.MinInt },
		func(d *api.Duel) { d.Table.Kinds = append(d.Table.Kinds, make([]api.Card, 1<<16)...) },
	} {
		for stage := range 256 {
			d := laid(t)
			d.Stage = uint8(stage)
			change(&d)
			p := duel.Ask(d)
			for who := range uint8(2) {
				v := view.Of(d, who)
				if v.Stage != p.Stage || v.Asked != p.Who || p.Who == who && len(v.Options) != len(p.Options) || p.Who != who && len(v.Options) > 0 {
					t.Fatalf("%d: stage %d: %d sees %+v", i, stage, who, v)
				}
				for _, o := range v.Options {
					if o.Piece < -1 || o.Piece >= len(v.Pieces) {
						t.Fatalf("%d: stage %d: %d sees %v", i, stage, who, o)
					}
				}
			}
		}
	}
	if d := time.Since(start); d > time.Minute {
		t.Errorf("it took %v", d)
	}
}

// Rules 1 and 8: a duel of which one thing is something else is seen alike twice, or not at all.
func TestSpoiledDuels(t *testing.T) {
	d := held(t)
	for stage := range uint8(api.AtOver + 1) {
		d.Stage = stage
		leaves(reflect.ValueOf(&d).Elem(), "", func(path string, v reflect.Value) {
			was := reflect.New(v.Type()).Elem()
			was.Set(v)
			for range 2 {
				other(v)
				for who := range uint8(3) {
					if !view.Same(view.Of(d, who), view.Of(d, who)) {
						t.Errorf("%s: views are others", path)
					}
				}
				view.Known(d.Table, 0, 0)
			}
			v.Set(was)
		})
	}
}
