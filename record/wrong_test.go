package record_test

import (
	"math"
	"reflect"
	"slices"
	"testing"
	"time"

	"joust/api"
	"joust/duel"
	"joust/record"
)

// apart tells whether a call that plays leaves what it was handed as it was, and answers its own memory, the same again.
func apart(t *testing.T, d api.Duel, play func(d api.Duel) (api.Duel, any)) {
	t.Helper()
	was := duel.Copy(d)
	room := reflect.ValueOf(&d).Elem()
	ahead := behind(room)
	first, told := play(d)
	again, toldAgain := play(d)
	kept := duel.Copy(again)
	if !duel.Same(first, again) || !reflect.DeepEqual(told, toldAgain) {
		t.Error("it answers something else")
	}
	scribble(reflect.ValueOf(&first).Elem())
	if !duel.Same(again, kept) || !duel.Same(d, was) || !reflect.DeepEqual(behind(room), ahead) {
		t.Error("an answer shares memory with another one, or with what was handed in, or that was changed")
	}
	scribble(reflect.ValueOf(&again).Elem())
	if third, _ := play(d); !duel.Same(third, kept) || !duel.Same(d, was) || !reflect.DeepEqual(behind(room), ahead) {
		t.Error("an answer shares memory with what was handed in")
	}
}

// other changes a number, a text or a truth.
func other(v reflect.Value) {
	switch v.Kind() {
	case reflect.String:
		v.SetString(v.String() + "!")
	case reflect.Bool:
		v.SetBool(!v.Bool())
	case reflect.Int:
		v.SetInt(v.Int() + 1)
	case reflect.Uint8:
		v.SetUint(v.Uint() + 1)
	}
}

// leaves calls f with each number, text and truth in v, those in the room behind lists' ends, too, if so told.
func leaves(v reflect.Value, rooms bool, f func(v reflect.Value)) {
	switch v.Kind() {
	case reflect.Struct:
		for i := range v.NumField() {
			leaves(v.Field(i), rooms, f)
		}
	case reflect.Array:
		for i := range v.Len() {
			leaves(v.Index(i), rooms, f)
		}
	case reflect.Slice:
		if rooms {
			v = v.Slice(0, v.Cap())
		}
		for i := range v.Len() {
			leaves(v.Index(i), rooms, f)
		}
	default:
		f(v)
	}
}

// scribble changes all that lists hold.
func scribble(v reflect.Value) { leaves(v, true, other) }

// behind is all that is in v, and in the room behind its lists' ends.
func behind(v reflect.Value) []any {
	var all []any
	leaves(v, true, func(v reflect.Value) { all = append(all, v.Interface()) })
	return all
}

// roomy is a list with room behind its end, in which something is.
func roomy[T any](l []T, behind T) []T {
	l = append(append([]T(nil), l...), behind, behind)
	return l[:len(l)-2]
}

// held is a duel that has room behind the ends of its lists.
func held(d api.Duel) api.Duel {
	d = duel.Copy(d)
	d.Table.Pieces = roomy(d.Table.Pieces, api.Piece{Zone: api.Hand})
	d.Table.Kinds = roomy(d.Table.Kinds, api.Card{Name: "behind"})
	for i, k := range d.Table.Kinds {
		for j, e := range k.Effects {
			k.Effects[j].Steps = roomy(e.Steps, api.Step{Do: api.StMill})
		}
		d.Table.Kinds[i].Effects = roomy(k.Effects, api.Effect{Pay: 7})
	}
	d.Table.Events = roomy(d.Table.Events, api.Event{Ev: api.EvEnd})
	d.Recent = roomy(d.Recent, api.Event{Ev: api.EvEnd})
	d.Waits = roomy(d.Waits, api.Ready{Piece: 5})
	for i, l := range d.Links {
		d.Links[i].Picks = roomy(l.Picks, 3)
	}
	d.Links = roomy(d.Links, api.Link{Piece: 5})
	d.Dies = roomy(d.Dies, 4)
	d.Choice.Picks = roomy(d.Choice.Picks, 2)
	return d
}

// Rules 5 and 8: what was handed in stays as it is, the room behind its end, too; what is answered is new memory, and the same again.
func TestApart(t *testing.T) {
	lines := story()
	script, duels := told(t, begin(t, storyDecks), lines)
	for i, d := range duels {
		d = held(d)
		to := min(i+3, len(script))
		numbers, some := roomy(slices.Insert(slices.Clone(script[i:to]), 0, -1), 5), roomy(slices.Clone(lines[i:to]), refused(9, 9))
		p := duel.Ask(d)
		wrong := roomy(append(slices.Clone(some), refused(2, 2)), refused(9, 9))
		wasNumbers, wasLines, wasWrong := slices.Clone(numbers[:cap(numbers)]), slices.Clone(some[:cap(some)]), slices.Clone(wrong[:cap(wrong)])
		for _, s := range [][]int{nil, {-1, len(p.Options)}, numbers} {
			apart(t, d, func(d api.Duel) (api.Duel, any) {
				x, l := record.Play(d, s)
				told := slices.Clone(l)
				scribble(reflect.ValueOf(&l).Elem())
				return x, told
			})
		}
		for _, l := range [][]api.Line{nil, {refused(p.Who, p.Stage)}, some, wrong} {
			apart(t, d, func(d api.Duel) (api.Duel, any) {
				x, e := record.Replay(d, l)
				return x, e
			})
		}
		if !slices.Equal(numbers[:cap(numbers)], wasNumbers) || !slices.Equal(some[:cap(some)], wasLines) || !slices.Equal(wrong[:cap(wrong)], wasWrong) {
			t.Errorf("%d: what was handed in changed", i)
		}
	}
}

// P19.1: where an option leads nowhere, as in a duel that was made otherwise, its number is refused, and its line leads nowhere.
func TestNotDecided(t *testing.T) {
	_, duels := told(t, begin(t, storyDecks), story())
	count := 0
	for _, d := range duels {
		d = duel.Copy(d)
		d.Stage, d.Passes, d.Then = api.AtAnswer, 1, 99
		p := duel.Ask(d)
		if _, e := duel.Decide(d, 0); e != api.OK {
			count++
			x, l := record.Play(d, []int{0, 0})
			same(t, x, d, l, []api.Line{refused(p.Who, p.Stage), refused(p.Who, p.Stage)})
			if x, e := record.Replay(d, []api.Line{{Who: p.Who, Stage: p.Stage, Option: p.Options[0]}}); e != api.ErrArg || !duel.Same(x, d) {
				t.Errorf("Replay = %d", e)
			}
		}
	}
	if count == 0 {
		t.Error("all options lead somewhere")
	}
}

// Rule 1: each call ends without a panic, whatever the duel is, and soon.
func TestWrongDuels(t *testing.T) {
	start := time.Now()
	_, duels := told(t, begin(t, storyDecks), story())
	stages := []uint8{api.AtLot, api.AtIdle, api.AtOrder, api.AtAnswer, api.AtPick, api.AtBattle, api.AtDrop, api.AtOver, api.AtOver + 1, 77, 255}
	for i, change := range []func(d *api.Duel){
		func(d *api.Duel) {},
		func(d *api.Duel) { *d = api.Duel{Stage: d.Stage, Lots: 9} },
		func(d *api.Duel) { d.Table.Pieces = nil },
		func(d *api.Duel) { d.Table.Kinds = nil },
		func(d *api.Duel) { d.Table.Player = 2 },
		func(d *api.Duel) { d.Table.Turn = math.MaxInt },
		func(d *api.Duel) { d.Table.Life = [2]int{-1, math.MaxInt} },
		func(d *api.Duel) { d.Lots, d.Whose = math.MaxInt, 1 },
		func(d *api.Duel) { d.Asked = 7 },
		func(d *api.Duel) { d.Then = 99 },
		func(d *api.Duel) { d.Trying, d.Try = true, math.MaxInt },
		func(d *api.Duel) { d.Attacker, d.Target = math.MinInt, math.MaxInt },
		func(d *api.Duel) { d.Dies = []int{math.MinInt, -1, 0, 99} },
		func(d *api.Duel) { d.Waits = []api.Ready{{Piece: -1}, {Who: 9, Piece: 99}} },
		func(d *api.Duel) { d.Links = []api.Link{{Who: 9, Piece: -1, Effect: -1, Picks: []int{-5}}} },
		func(d *api.Duel) {
			itself := make([]api.Expr, 1)
			itself[0] = api.Expr{Op: api.ExNot, Args: itself}
			d.Table.Kinds[0].Effects = []api.Effect{{Mode: api.Act, Cond: itself}}
		},
	} {
		for k := range 2 * len(stages) {
			d, stage := duel.Copy(duels[20+k]), stages[k%len(stages)]
			d.Stage = stage
			change(&d)
			x, l := record.Play(d, []int{0, -1, 1, 0, math.MaxInt, 0})
			want, lines := played(d, []int{0, -1, 1, 0, math.MaxInt, 0})
			same(t, x, want, l, lines)
			if y, e := record.Replay(d, l); e != api.OK || !duel.Same(x, y) {
				t.Errorf("%d: stage %d: Replay = %d", i, stage, e)
			}
			wrong := append(l, line(9, 9, 9, 9, 9))
			if y, e := record.Replay(d, wrong); e != api.ErrArg || !duel.Same(y, d) {
				t.Errorf("%d: stage %d: Replay = %d", i, stage, e)
			}
		}
	}
	if d := time.Since(start); d > time.Minute {
		t.Errorf("it took %v", d)
	}
}

// Rule 1: long scripts end soon, whatever is refused.
func TestLongScripts(t *testing.T) {
	start := time.Now()
	d := begin(t, storyDecks)
	script, duels := told(t, d, story())
	for i, at := range duels {
		if i%10 != 0 && i != len(script) {
			continue
		}
		long := slices.Repeat([]int{-1}, 1<<18)
		x, l := record.Play(at, long)
		p := duel.Ask(at)
		if !duel.Same(x, at) || len(l) != len(long) || l[0] != refused(p.Who, p.Stage) || slices.Max(long) != -1 || slices.ContainsFunc(l, func(m api.Line) bool { return m != l[0] }) {
			t.Errorf("%d: Play of a long script", i)
		}
		if y, e := record.Replay(at, l); e != api.OK || !duel.Same(y, at) {
			t.Errorf("%d: Replay = %d", i, e)
		}
	}
	x, l := record.Play(d, make([]int, 1<<18))
	if y, e := record.Replay(d, l); e != api.OK || !duel.Same(x, y) || x.Stage != api.AtOver || len(l) != 1<<18 {
		t.Errorf("Replay = %d, stage %d", e, x.Stage)
	}
	if d := time.Since(start); d > time.Minute {
		t.Errorf("it took %v", d)
	}
}
