package chain_test

import (
	"reflect"
	"slices"
	"testing"
	"time"

	"joust/api"
	"joust/chain"
)

// scribble changes all that v's lists hold, the room behind their ends, too.
func scribble(v reflect.Value) {
	switch v.Kind() {
	case reflect.Struct:
		for i := range v.NumField() {
			scribble(v.Field(i))
		}
	case reflect.Array:
		for i := range v.Len() {
			scribble(v.Index(i))
		}
	case reflect.Slice:
		l := v.Slice(0, v.Cap())
		for i := range l.Len() {
			scribble(l.Index(i))
		}
	case reflect.String:
		v.SetString(v.String() + "!")
	case reflect.Bool:
		v.SetBool(!v.Bool())
	case reflect.Int:
		v.SetInt(v.Int() + 1000)
	case reflect.Uint8:
		v.SetUint(v.Uint() + 100)
	}
}

// roomy is a list with room behind its end that holds something.
func roomy[T any](l []T, behind T) []T {
	l = append(slices.Clone(l), behind, behind, behind)
	return l[:len(l)-3]
}

// held is a table, picks and links, each with room behind its end.
func held(t *testing.T) (api.Table, []int, []api.Link) {
	t.Helper()
	x := shown(t)
	x.Kinds[rain].Effects[0].Pick = 2
	x.Kinds[rain].Effects[0].Sel = api.Sel{Side: api.Mine, Zone: api.Back}
	x.Kinds[rain].Effects[0].Cond = roomy([]api.Expr{{Op: api.ExNot, Args: roomy([]api.Expr{num(0)}, num(5))}}, num(6))
	x.Pieces[rain].Up = false
	x.Pieces = roomy(x.Pieces, at(3, 0, api.Hand, 0))
	x.Kinds = roomy(x.Kinds, card(api.Trap, play(hurt(2))))
	x.Events = roomy([]api.Event{{Ev: api.EvTry, Piece: 4}}, api.Event{Ev: api.EvEnd})
	links := roomy([]api.Link{of(0, net), of(0, wall), of(0, twice)}, of(0, gate))
	links[0].Picks = roomy([]int{net, wall}, gate)
	return x, roomy([]int{wall, net}, twice), links
}

// answer is all that the calls answer, of what may be and of what may not.
type answer struct {
	Tables  []api.Table
	Links   []api.Link
	Effects []api.Effect
}

func answers(x api.Table, picks []int, l []api.Link) answer {
	var a answer
	begin := func(x api.Table, who uint8, id int, picks []int) {
		y, link, _ := chain.Begin(x, who, id, 0, picks)
		a.Tables, a.Links = append(a.Tables, y), append(a.Links, link)
	}
	end := func(x api.Table, l []api.Link) {
		y, _ := chain.End(x, l)
		a.Tables = append(a.Tables, y)
	}
	begin(x, 0, rain, picks)
	begin(x, 0, net, picks[:0])
	begin(x, 1, rain, picks)
	begin(x, 0, rain, nil)
	begin(x, 2, rain, picks)
	end(x, l)
	end(x, l[:1])
	end(x, nil)
	wrong := x
	wrong.Turn = 0
	begin(wrong, 0, rain, picks)
	end(wrong, l)
	for id := range many {
		e, _ := chain.Effect(x, id, 0)
		a.Effects = append(a.Effects, e)
	}
	return a
}

// What was handed in stays as it is, the room behind its end, too; what is answered is new memory.
func TestApart(t *testing.T) {
	x, picks, links := held(t)
	y, samePicks, sameLinks := held(t)
	same := func() bool {
		return reflect.DeepEqual(x, y) && reflect.DeepEqual(x.Pieces[:cap(x.Pieces)], y.Pieces[:cap(y.Pieces)]) && reflect.DeepEqual(x.Kinds[:cap(x.Kinds)], y.Kinds[:cap(y.Kinds)]) && reflect.DeepEqual(x.Events[:cap(x.Events)], y.Events[:cap(y.Events)]) &&
			slices.Equal(picks[:cap(picks)], samePicks[:cap(picks)]) && reflect.DeepEqual(links[:cap(links)], sameLinks[:cap(links)]) && slices.Equal(links[0].Picks[:cap(links[0].Picks)], sameLinks[0].Picks[:cap(links[0].Picks)])
	}
	first, again := answers(x, picks, links), answers(x, picks, links)
	if !same() || !reflect.DeepEqual(first, again) {
		t.Fatal("what was handed in changed")
	}
	if !slices.Equal(first.Links[0].Picks, picks) || len(first.Effects[rain].Cond) == 0 || len(first.Tables[5].Events) < 2 {
		t.Fatalf("nothing was done: %+v", first.Links)
	}
	scribble(reflect.ValueOf(&first).Elem())
	if !same() || !reflect.DeepEqual(again, answers(y, samePicks, sameLinks)) {
		t.Error("answers share memory")
	}
	scribble(reflect.ValueOf(&x).Elem())
	scribble(reflect.ValueOf(&picks).Elem())
	scribble(reflect.ValueOf(&links).Elem())
	if !reflect.DeepEqual(again, answers(y, samePicks, sameLinks)) {
		t.Error("an answer shares memory with what was handed in")
	}
}

// begins notes where the lists of expressions begin; it is no, if one begins where another one did.
func begins(l []api.Expr, seen map[*api.Expr]bool) bool {
	if len(l) == 0 {
		return true
	}
	apart := !seen[&l[0]]
	seen[&l[0]] = true
	for _, x := range l {
		apart = begins(x.Args, seen) && apart
	}
	return apart
}

// No two lists of one answer share any memory, though what was handed in tells one list in many places.
func TestApartOfMany(t *testing.T) {
	l := []api.Expr{{N: 1}, {N: 2}}
	for range 4 {
		l = []api.Expr{{Op: api.ExAdd, Args: l}, {Op: api.ExAdd, Args: l}}
	}
	e := api.Effect{Cond: l, Steps: []api.Step{{Do: api.StHeal, N: api.Expr{Op: api.ExAdd, Args: l}}}}
	x := table(t, []api.Card{card(api.Trap, e)}, at(0, 0, api.Back, 0))
	y, link := begin(t, x, 0, 0, 0)
	z, _ := chain.End(y, []api.Link{link})
	told, _ := chain.Effect(x, 0, 0)
	for i, is := range []api.Effect{told, y.Kinds[0].Effects[0], z.Kinds[0].Effects[0]} {
		seen := map[*api.Expr]bool{}
		begins(l, seen)
		if !begins(is.Cond, seen) || !begins(is.Steps[0].N.Args, seen) || !reflect.DeepEqual(is, e) {
			t.Errorf("%d: lists share memory", i)
		}
	}
}

// Each call ends, whatever its expressions, numbers and lists are, and in time.
func TestCallsEnd(t *testing.T) {
	within, deep := make([]api.Expr, 3), []api.Expr{{N: 1}}
	for i := range within {
		within[i] = api.Expr{Op: api.ExAdd, Args: within[i/2:]}
	}
	for range 100000 {
		deep = []api.Expr{{Op: api.ExNot, Args: deep}}
	}
	start := time.Now()
	for _, args := range [][]api.Expr{within, deep} {
		e := api.Effect{Cond: args[:1], Discard: 60, Steps: []api.Step{{Do: api.StHeal, N: args[0]}, negate()}}
		idle := api.Effect{Steps: []api.Step{{Do: api.StMill, N: api.Expr{Op: 99, Args: args}}}, Discard: 60}
		x := table(t, []api.Card{card(api.Spell, e, idle)})
		for place := range 70 {
			x.Pieces = append(x.Pieces, at(0, 0, api.Hand, place))
		}
		for effect := range 2 {
			chain.Begin(x, 0, 3, effect, nil)
			chain.End(x, []api.Link{{Piece: 3, Effect: effect}, {Piece: 4, Effect: effect}})
			chain.Effect(x, 3, effect)
		}
	}
	x := shown(t)
	links := make([]api.Link, 1<<20)
	for i := range links {
		links[i] = api.Link{Piece: i - 5, Effect: 2 + i}
	}
	chain.End(x, links)
	chain.Begin(x, 0, net, 0, make([]int, 1<<20))
	if d := time.Since(start); d > 20*time.Second {
		t.Errorf("it took %v", d)
	}
}
