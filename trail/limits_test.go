package trail_test

import (
	"slices"
	"testing"
	"time"

	"joust/api"
	"joust/duel"
	"joust/trail"
)

// monks is a duel that goes on for more than MaxTrail decisions, and a script of so many of it.
func monks(t *testing.T) (api.Duel, []int) {
	t.Helper()
	heal := api.Effect{Mode: api.Act, Steps: []api.Step{{Do: api.StHeal, N: api.Expr{N: 1}}}}
	kinds := []api.Card{{Name: "monk", Level: 1, Attack: 100, Effects: []api.Effect{heal, heal, heal, heal}}}
	deck := make([]int, api.MaxDeck)
	first, e := duel.Begin(kinds, [2][]int{deck, deck})
	if e != api.OK {
		t.Fatal(e)
	}
	var script []int
	for d := first; len(script) <= api.MaxTrail; {
		n := busy(duel.Ask(d))
		script = append(script, n)
		if d, e = duel.Decide(d, n); e != api.OK {
			t.Fatalf("%d decisions: %d", len(script), e)
		}
	}
	return first, script
}

// busy is the first option that isn't one to fight, unless there is none.
func busy(p api.Prompt) int {
	return max(0, slices.IndexFunc(p.Options, func(o api.Option) bool { return o.Do != api.OpBattle }))
}

// P24.1, P24.2: as many decisions as there may be, and one more.
func TestMaxTrail(t *testing.T) {
	first, script := monks(t)
	all := script[:api.MaxTrail]
	for _, l := range [][]int{script, append(slices.Clone(all), -1), append([]int{-1}, all...), make([]int, 1<<20)} {
		if x, n, e := trail.Make(first, l); x != nil || n != 0 || e != api.ErrFull {
			t.Errorf("Make of %d = %v, %d, %d", len(l), x, n, e)
		}
	}
	x := made(t, first, all)
	stands(t, "Make", x, first, all, api.MaxTrail)
	for _, n := range []int{script[api.MaxTrail], -1, 99} {
		answers(t, "Do", x.Do(n), api.ErrFull)
		stands(t, "Do", x, first, all, api.MaxTrail)
	}
	answers(t, "Go", x.Go(api.MaxTrail+1), api.ErrArg)
	answers(t, "Go", x.Go(api.MaxTrail-1), api.OK)
	answers(t, "Do", x.Do(-1), api.ErrArg)
	answers(t, "Do", x.Do(all[api.MaxTrail-1]), api.OK)
	stands(t, "Do", x, first, all, api.MaxTrail)
	f, e := x.Fork(api.MaxTrail)
	answers(t, "Fork", e, api.OK)
	stands(t, "Fork", f, first, all, api.MaxTrail)
	answers(t, "Do", f.Do(0), api.ErrFull)
}

// P24.2: a trail that is full has room ahead of its end, and is full again behind as many.
func TestFullTrail(t *testing.T) {
	first, script := monks(t)
	script = script[:api.MaxTrail]
	x := made(t, first, script[:api.MaxTrail-3])
	for _, n := range script[api.MaxTrail-3:] {
		answers(t, "Do", x.Do(n), api.OK)
	}
	answers(t, "Do", x.Do(0), api.ErrFull)
	stands(t, "Do", x, first, script, api.MaxTrail)
	place := api.MaxTrail - 1
	other := func() int { return len(duel.Ask(x.Duel()).Options) - 1 }
	for answers(t, "Go", x.Go(place), api.OK); other() == script[place]; answers(t, "Go", x.Go(place), api.OK) {
		place--
	}
	script = append(slices.Clone(script[:place]), other())
	answers(t, "Do", x.Do(script[place]), api.OK)
	stands(t, "Do", x, first, script, place+1)
	for len(script) < api.MaxTrail {
		script = append(script, busy(duel.Ask(x.Duel())))
		answers(t, "Do", x.Do(script[len(script)-1]), api.OK)
	}
	answers(t, "Do", x.Do(0), api.ErrFull)
	stands(t, "Do", x, first, script, api.MaxTrail)
}

// depths are expressions within themselves: there is no end of them.
func depths() []api.Expr {
	l := make([]api.Expr, 2)
	l[0], l[1] = api.Expr{Op: api.ExNot, Args: l}, api.Expr{Op: api.ExNot, Args: l}
	return l
}

// P24.1: which duels may be saved.
func TestMayBeSaved(t *testing.T) {
	picks := make([]int, 4096)
	many := make([]api.Link, 300)
	for i := range many {
		many[i].Picks = picks
	}
	deep := []api.Card{{Name: "a", Effects: []api.Effect{{Cond: depths()}}}}
	for i, c := range []struct {
		d api.Duel
		e api.Errno
	}{
		{api.Duel{}, api.OK},
		{api.Duel{Passes: 1 << 31}, api.OK},
		{api.Duel{Passes: 1<<31 + 1}, api.ErrArg},
		{api.Duel{Target: -1 << 31}, api.OK},
		{api.Duel{Target: -1<<31 - 1}, api.ErrArg},
		{api.Duel{Lots: 1 << 62}, api.ErrArg},
		{api.Duel{Dies: picks}, api.OK},
		{api.Duel{Dies: make([]int, 4097)}, api.ErrArg},
		{api.Duel{Links: []api.Link{{Picks: make([]int, 4097)}}}, api.ErrArg},
		{api.Duel{Links: many}, api.OK}, // more than MaxBytes bytes
		{api.Duel{Table: api.Table{Pieces: make([]api.Piece, 4097)}}, api.ErrArg},
		{api.Duel{Table: api.Table{Kinds: []api.Card{{Name: "a"}}}}, api.OK},
		{api.Duel{Table: api.Table{Kinds: []api.Card{{Name: "a b"}}}}, api.ErrArg},
		{api.Duel{Table: api.Table{Kinds: deep}}, api.ErrArg},
		{api.Duel{Table: api.Table{Life: [2]int{0, 1 << 40}}}, api.ErrArg},
	} {
		start := time.Now()
		x, e := trail.New(c.d)
		y, n, f := trail.Make(c.d, nil)
		if e != c.e || f != c.e || n != 0 || (x == nil) != (e != api.OK) || (y == nil) != (e != api.OK) {
			t.Errorf("%d: New = %v, %d; Make = %v, %d, %d, not %d", i, x, e, y, n, f, c.e)
			continue
		}
		if e == api.OK {
			stands(t, "New", x, c.d, nil, 0)
			stands(t, "Make", y, c.d, nil, 0)
		}
		if took := time.Since(start); took > 5*time.Second {
			t.Errorf("%d: took %v", i, took)
		}
	}
}

// P24.1: what may not be saved is told ahead of what is too long, and that ahead of what is refused.
func TestWhichError(t *testing.T) {
	long := make([]int, api.MaxTrail+1)
	long[0] = -1
	for _, c := range []struct {
		d      api.Duel
		script []int
		e      api.Errno
	}{
		{api.Duel{Passes: 1 << 40}, long, api.ErrArg},
		{api.Duel{Passes: 1 << 40, Stage: api.AtOver}, []int{0}, api.ErrArg},
		{api.Duel{Stage: api.AtOver}, long, api.ErrFull},
		{api.Duel{Stage: api.AtOver}, long[:api.MaxTrail], api.ErrState},
		{ogres(t, 0), long, api.ErrFull},
		{ogres(t, 0), long[:api.MaxTrail], api.ErrArg},
	} {
		if x, n, e := trail.Make(c.d, c.script); x != nil || n != 0 || e != c.e {
			t.Errorf("Make of %d = %v, %d, %d, not %d", len(c.script), x, n, e, c.e)
		}
	}
}
