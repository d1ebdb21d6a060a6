package duel_test

import (
	"reflect"
	"testing"

	"joust/api"
	"joust/board"
	"joust/duel"
)

// roomy is a list with room behind its end.
func roomy[T any](l ...T) []T { return append(make([]T, 0, len(l)+3), l...) }

// full is a duel in which each list has something, and room behind its end.
func full(t *testing.T) api.Duel {
	t.Helper()
	e := picking(upon(api.Must, api.EvSummon, api.Any, step(api.StHeal, api.Mine, 1)), 1)
	e.Cond = roomy(api.Expr{Op: api.ExNot, Args: roomy(num(0))})
	e.Steps = roomy(e.Steps...)
	kinds := sages(e)
	kinds[kin].Effects = roomy(kinds[kin].Effects...)
	g := ready(t, kinds, []int{kin, kin}, []int{kin})
	g.row(0, mine, mine+1)
	g.row(1, theirs)
	d := g.d
	d.Table.Kinds, d.Table.Pieces = roomy(kinds...), roomy(d.Table.Pieces...)
	d.Table.Events = roomy(api.Event{Ev: api.EvDamage, Piece: -1})
	d.Recent = roomy(api.Event{Ev: api.EvSummon, Piece: 3, Who: 1})
	d.Waits = roomy(api.Ready{Piece: mine, Must: true}, api.Ready{Who: 1, Piece: theirs, Must: true})
	d.Links = roomy(api.Link{Who: 1, Piece: theirs, Picks: roomy(mine, theirs)}, api.Link{Piece: mine, Picks: roomy(theirs), Speed: 2})
	d.Dies = roomy(mine, theirs)
	d.Choice = api.Choice{Ready: api.Ready{Piece: mine + 1}, Picks: roomy(mine)}
	return d
}

// leaves calls f with each number, text and truth in v.
func leaves(v reflect.Value, path string, f func(path string, v reflect.Value)) {
	switch v.Kind() {
	case reflect.Struct:
		for i := range v.NumField() {
			leaves(v.Field(i), path+"."+v.Type().Field(i).Name, f)
		}
	case reflect.Array, reflect.Slice:
		for i := range v.Len() {
			leaves(v.Index(i), path, f)
		}
	default:
		f(path, v)
	}
}

// other changes a number, a text or a truth.
func other(v reflect.Value) {
	switch v.Kind() {
	case reflect.String:
		v.SetString(v.String() + "!")
	case reflect.Bool:
		v.SetBool(!v.Bool())
	case reflect.Int:
		v.SetInt(v.Int() + 1)
	case reflect.Uint8:
		v.SetUint(v.Uint() + 1)
	}
}

// P17.1: two duels are the same, if nothing in them is another thing.
func TestSame(t *testing.T) {
	a, b := full(t), full(t)
	if !duel.Same(a, b) || !duel.Same(a, duel.Copy(b)) || !duel.Same(api.Duel{}, api.Duel{}) {
		t.Error("the same are not the same")
	}
	count, seen := 0, map[string]bool{}
	leaves(reflect.ValueOf(&b).Elem(), "", func(path string, v reflect.Value) {
		was := reflect.New(v.Type()).Elem()
		was.Set(v)
		other(v)
		if duel.Same(a, b) || duel.Same(b, a) {
			t.Errorf("another %s is the same", path)
		}
		v.Set(was)
		count++
		seen[path] = true
	})
	if count < 300 || len(seen) < 80 || !duel.Same(a, b) {
		t.Errorf("%d leaves of %d kinds", count, len(seen))
	}
}

// P17.1: two duels are others, if a list of one is longer; lists that are nil and lists without elements are the same.
func TestSameLists(t *testing.T) {
	for i, change := range []func(d *api.Duel){
		func(d *api.Duel) { d.Table.Kinds = d.Table.Kinds[1:] },
		func(d *api.Duel) { d.Table.Pieces = d.Table.Pieces[:9] },
		func(d *api.Duel) { d.Table.Events = nil },
		func(d *api.Duel) { d.Links = d.Links[:1] },
		func(d *api.Duel) { d.Links[1].Picks = nil },
		func(d *api.Duel) { d.Recent = nil },
		func(d *api.Duel) { d.Waits = d.Waits[:1] },
		func(d *api.Duel) { d.Dies = append(d.Dies, 1) },
		func(d *api.Duel) { d.Choice.Picks = append(d.Choice.Picks, 1) },
	} {
		a, b := full(t), full(t)
		change(&b)
		if duel.Same(a, b) || duel.Same(b, a) {
			t.Errorf("%d: the same", i)
		}
	}
	empty := api.Duel{Table: api.Table{Kinds: []api.Card{}, Pieces: []api.Piece{}, Events: []api.Event{}}, Links: []api.Link{}, Recent: []api.Event{}, Waits: []api.Ready{}, Dies: []int{}, Choice: api.Choice{Picks: []int{}}}
	if !duel.Same(empty, api.Duel{}) || !duel.Same(api.Duel{}, empty) || !duel.Same(duel.Copy(empty), empty) {
		t.Error("lists without elements")
	}
}

// scribble changes all that v's lists hold, the room behind their ends, too.
func scribble(v reflect.Value) {
	switch v.Kind() {
	case reflect.Struct:
		for i := range v.NumField() {
			scribble(v.Field(i))
		}
	case reflect.Array:
		for i := range v.Len() {
			scribble(v.Index(i))
		}
	case reflect.Slice:
		l := v.Slice(0, v.Cap())
		for i := range l.Len() {
			scribble(l.Index(i))
		}
	default:
		other(v)
	}
}

// P17.1: a copy is the same, in all, and shares nothing.
func TestCopy(t *testing.T) {
	a := full(t)
	first, again := duel.Copy(a), duel.Copy(a)
	if !reflect.DeepEqual(first, a) || !duel.Same(first, full(t)) {
		t.Errorf("Copy = %+v", bare(first))
	}
	scribble(reflect.ValueOf(&first).Elem())
	if !reflect.DeepEqual(a, full(t)) || !reflect.DeepEqual(again, full(t)) {
		t.Error("a copy shares memory with another one, or with what was copied")
	}
	scribble(reflect.ValueOf(&a).Elem())
	if !reflect.DeepEqual(again, full(t)) {
		t.Error("a copy shares memory with what was copied")
	}
	shared := full(t)
	shared.Dies = shared.Links[0].Picks
	shared.Choice.Picks, shared.Links[1].Picks, shared.Table.Events = shared.Dies, shared.Dies, shared.Recent
	apart(t, "Copy", duel.Copy(shared))
}

// apart asks that no two lists of an answer share any memory.
func apart(t *testing.T, what string, d api.Duel) {
	t.Helper()
	seen := map[uintptr]bool{}
	var walk func(v reflect.Value)
	walk = func(v reflect.Value) {
		switch v.Kind() {
		case reflect.Struct:
			for i := range v.NumField() {
				walk(v.Field(i))
			}
		case reflect.Slice:
			size := v.Type().Elem().Size()
			for i := range v.Cap() {
				at := v.Pointer() + uintptr(i)*size
				if seen[at] {
					t.Fatalf("%s: two lists of an answer share memory", what)
				}
				seen[at] = true
			}
			for i := range v.Len() {
				walk(v.Index(i))
			}
		}
	}
	walk(reflect.ValueOf(d))
}

// stages is a duel at each stage, each made of the one that is full.
func stages(t *testing.T) []api.Duel {
	var l []api.Duel
	for stage := range uint8(api.AtOver + 3) {
		d := full(t)
		d.Stage, d.Lots = stage, 2
		if stage == api.AtLot {
			d.Whose = 1
		}
		if stage == api.AtDrop {
			for id := 5; id < 8; id++ {
				d.Table, _ = board.Put(d.Table, id, api.Hand, 0, false, false)
			}
		}
		for then := range uint8(api.ThenDrop + 2) {
			e := duel.Copy(d)
			e.Then, e.Passes = then, int(then)%2
			if then%2 == 0 {
				e.Links = nil
			}
			if then == api.ThenStrike {
				e.Attacker, e.Target = mine, theirs
			}
			l = append(l, e)
		}
	}
	return l
}

// What was handed in stays as it is, the room behind its end, too; what is answered is new memory, with an error, too.
func TestApart(t *testing.T) {
	count := map[api.Errno]int{}
	for i, d := range stages(t) {
		want := stages(t)[i]
		p := duel.Ask(d)
		for n := -1; n <= len(p.Options); n++ {
			first, e := duel.Decide(d, n)
			again, _ := duel.Decide(d, n)
			count[e]++
			if !reflect.DeepEqual(first, again) || !reflect.DeepEqual(d, want) {
				t.Fatalf("stage %d, %d: what was handed in changed", d.Stage, n)
			}
			apart(t, "Decide", first)
			scribble(reflect.ValueOf(&first).Elem())
			if third, _ := duel.Decide(d, n); !reflect.DeepEqual(third, again) || !reflect.DeepEqual(d, want) {
				t.Fatalf("stage %d, %d: an answer shares memory with what was handed in, or with another one", d.Stage, n)
			}
		}
		q := duel.Ask(d)
		scribble(reflect.ValueOf(&p).Elem())
		if !reflect.DeepEqual(d, want) || !reflect.DeepEqual(q, duel.Ask(d)) {
			t.Errorf("stage %d: options share memory", d.Stage)
		}
	}
	if count[api.OK] < 100 || count[api.ErrArg] < 50 || count[api.ErrState] < 10 {
		t.Errorf("answers: %v", count)
	}
}

// What was handed to Begin stays as it is, and the duel shares nothing with it.
func TestBeginApart(t *testing.T) {
	kinds, decks := roomy(pool()...), [2][]int{roomy(ogre, rain), roomy(lord)}
	first, _ := duel.Begin(kinds, decks)
	again, _ := duel.Begin(kinds, decks)
	want := duel.Copy(again)
	scribble(reflect.ValueOf(&first).Elem())
	if !duel.Same(again, want) || !reflect.DeepEqual(kinds, pool()) || !reflect.DeepEqual(decks, [2][]int{{ogre, rain}, {lord}}) {
		t.Error("a duel shares memory")
	}
	scribble(reflect.ValueOf(&kinds).Elem())
	scribble(reflect.ValueOf(&decks).Elem())
	if !duel.Same(again, want) {
		t.Error("a duel shares memory with what was handed in")
	}
	apart(t, "Begin", again)
}
