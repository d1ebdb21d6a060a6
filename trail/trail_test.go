package trail_test

import (
	"slices"
	"testing"

	"joust/api"
	"joust/duel"
	"joust/trail"
)

// ogres is the duel of the chapter duel, behind so many decisions of 0.
func ogres(t *testing.T, decisions int) api.Duel {
	t.Helper()
	deck := make([]int, 6)
	d, e := duel.Begin([]api.Card{{Name: "ogre", Level: 4, Attack: 1800}}, [2][]int{deck, deck})
	if e != api.OK {
		t.Fatal(e)
	}
	return behind(t, d, make([]int, decisions))
}

// behind is what the decisions of a script lead to.
func behind(t *testing.T, d api.Duel, script []int) api.Duel {
	t.Helper()
	d = duel.Copy(d)
	for i, n := range script {
		var e api.Errno
		if d, e = duel.Decide(d, n); e != api.OK {
			t.Fatalf("decision %d of %v: %d", i, script, e)
		}
	}
	return d
}

// made is the trail of a script that leads somewhere.
func made(t *testing.T, d api.Duel, script []int) *trail.Trail {
	t.Helper()
	x, n, e := trail.Make(d, script)
	if e != api.OK || n != len(script) || x == nil {
		t.Fatalf("Make(%v) = %v, %d, %d", script, x, n, e)
	}
	return x
}

// answers asks for an error of a call.
func answers(t *testing.T, what string, e, want api.Errno) {
	t.Helper()
	if e != want {
		t.Errorf("%s: %d, not %d", what, e, want)
	}
}

// stands asks a trail that begins with a duel for all that it tells.
func stands(t *testing.T, what string, x *trail.Trail, first api.Duel, script []int, place int) {
	t.Helper()
	if l, p := x.Script(); !slices.Equal(l, script) || p != place {
		t.Fatalf("%s: Script = %v, %d, not %v, %d", what, l, p, script, place)
	}
	if k := x.Kept(); k != len(script)/16+1 {
		t.Errorf("%s: Kept = %d of %d decisions", what, k, len(script))
	}
	if d, want := x.Duel(), behind(t, first, script[:place]); !duel.Same(d, want) {
		t.Errorf("%s: Duel = %+v, not %+v", what, d, want)
	}
}

// P24.1 to P24.3: the chapter's example.
func TestExample(t *testing.T) {
	first := ogres(t, 0)
	x, e := trail.New(first)
	answers(t, "New", e, api.OK)
	for range 12 {
		answers(t, "Do(0)", x.Do(0), api.OK)
	}
	answers(t, "Go(5)", x.Go(5), api.OK)
	answers(t, "Do(9)", x.Do(9), api.ErrArg)
	answers(t, "Do(0)", x.Do(0), api.OK)
	stands(t, "Do(0)", x, first, make([]int, 12), 6)
	answers(t, "Go(12)", x.Go(12), api.OK)
	answers(t, "Do(1)", x.Do(1), api.OK)
	stands(t, "Do(1)", x, first, append(make([]int, 12), 1), 13)
	if k := x.Kept(); k != 1 {
		t.Errorf("Kept = %d", k)
	}
}

// P24.1: New is a trail without decisions, of a duel at any decision.
func TestNew(t *testing.T) {
	for _, n := range []int{0, 1, 12, 13, 20} {
		first := ogres(t, n)
		x, e := trail.New(first)
		answers(t, "New", e, api.OK)
		stands(t, "New", x, first, nil, 0)
		answers(t, "Do(0)", x.Do(0), api.OK)
		stands(t, "Do(0)", x, first, []int{0}, 1)
	}
}

// P24.1: Make is a trail at its end, and is no other one than that of New and each decision done.
func TestMake(t *testing.T) {
	first := ogres(t, 0)
	x, e := trail.New(first)
	answers(t, "New", e, api.OK)
	for n := range 46 {
		script := make([]int, n)
		stands(t, "Make", made(t, first, script), first, script, n)
		stands(t, "Do", x, first, script, n)
		answers(t, "Do", x.Do(0), api.OK)
	}
	stands(t, "Make of none", made(t, first, nil), first, nil, 0)
	stands(t, "Make of none", made(t, first, []int{}), first, nil, 0)
}

// P24.1: which decision is refused first, and why.
func TestMakeRefused(t *testing.T) {
	first := ogres(t, 0)
	over := ogres(t, 12)
	over.Stage = api.AtOver
	for _, c := range []struct {
		d      api.Duel
		script []int
		n      int
		e      api.Errno
	}{
		{first, []int{6}, 0, api.ErrArg},
		{first, []int{5}, 1, api.OK},
		{first, []int{-1}, 0, api.ErrArg},
		{first, []int{0, 5}, 1, api.ErrArg},
		{first, []int{0, 4, 1 << 40, -1}, 2, api.ErrArg},
		{first, append(make([]int, 40), 99), 40, api.ErrArg},
		{first, append(make([]int, 33), -99, 0, 0), 33, api.ErrArg},
		{over, nil, 0, api.OK},
		{over, []int{0}, 0, api.ErrState},
		{over, []int{-1}, 0, api.ErrState},
	} {
		x, n, e := trail.Make(c.d, c.script)
		if n != c.n || e != c.e || (x == nil) == (e == api.OK) {
			t.Errorf("Make(%v) = %v, %d, %d, not %d, %d", c.script, x, n, e, c.n, c.e)
		}
	}
}

// P24.2: each decision that an error refuses changes nothing.
func TestDoRefused(t *testing.T) {
	first, script := ogres(t, 0), make([]int, 37)
	x := made(t, first, script)
	for _, place := range []int{0, 1, 11, 15, 16, 17, 31, 32, 36, 37} {
		answers(t, "Go", x.Go(place), api.OK)
		for _, n := range []int{-1, 6, 99, 1 << 62, -1 << 63} {
			answers(t, "Do", x.Do(n), api.ErrArg)
			stands(t, "Do", x, first, script, place)
		}
	}
}

// P24.2: at a duel that is over nothing is decided, but a decision that leads there is.
func TestDoOver(t *testing.T) {
	first := ogres(t, 0)
	var script []int
	for d := first; d.Stage != api.AtOver; {
		last := len(duel.Ask(d).Options) - 1
		script = append(script, last)
		d = behind(t, d, []int{last})
	}
	x := made(t, first, script)
	for _, n := range []int{0, -1} {
		answers(t, "Do", x.Do(n), api.ErrState)
		stands(t, "Do", x, first, script, len(script))
	}
	answers(t, "Go", x.Go(len(script)-1), api.OK)
	answers(t, "Do", x.Do(script[len(script)-1]), api.OK)
	stands(t, "Do", x, first, script, len(script))
	answers(t, "Do", x.Do(0), api.ErrState)
}

// P24.2: the next decision once more leaves those behind it; another one lets them go.
func TestDo(t *testing.T) {
	first, script := ogres(t, 0), make([]int, 45)
	for place := range 12 {
		x := made(t, first, script)
		answers(t, "Go", x.Go(place), api.OK)
		for next := place + 1; next <= 45; next++ {
			answers(t, "Do(0)", x.Do(0), api.OK)
			stands(t, "Do(0)", x, first, script, next)
		}
		options := len(duel.Ask(ogres(t, place)).Options)
		for n := 1; n < options; n++ {
			x := made(t, first, script)
			answers(t, "Go", x.Go(place), api.OK)
			answers(t, "Do", x.Do(n), api.OK)
			stands(t, "Do", x, first, append(make([]int, place), n), place+1)
		}
	}
}

// P24.2: what was let go is no place any more, and is not what comes there anew.
func TestLetGo(t *testing.T) {
	first := ogres(t, 0)
	x := made(t, first, make([]int, 40))
	answers(t, "Go", x.Go(10), api.OK)
	answers(t, "Do(1)", x.Do(1), api.OK)
	script := append(make([]int, 10), 1)
	stands(t, "Do(1)", x, first, script, 11)
	for _, place := range []int{12, 16, 32, 40} {
		answers(t, "Go", x.Go(place), api.ErrArg)
		stands(t, "Go", x, first, script, 11)
	}
	for len(script) < 40 {
		n := 0
		if len(script) == 12 {
			n = len(duel.Ask(x.Duel()).Options) - 1
		}
		answers(t, "Do", x.Do(n), api.OK)
		script = append(script, n)
		stands(t, "Do", x, first, script, len(script))
	}
	for place := range 41 {
		answers(t, "Go", x.Go(place), api.OK)
		stands(t, "Go", x, first, script, place)
	}
}

// P24.2, P24.4: each place is gone to from each one, and back.
func TestGo(t *testing.T) {
	first, script := ogres(t, 0), make([]int, 35)
	x := made(t, first, script)
	for from := range 36 {
		for to := range 36 {
			for _, place := range []int{from, to, from} {
				answers(t, "Go", x.Go(place), api.OK)
				if d := x.Duel(); !duel.Same(d, ogres(t, place)) {
					t.Fatalf("Go(%d), Go(%d): Duel = %+v", from, to, d)
				}
			}
		}
	}
	stands(t, "Go", x, first, script, 35)
	for _, place := range []int{-1, 36, 48, -16, 1 << 62, -1 << 63} {
		answers(t, "Go", x.Go(place), api.ErrArg)
		stands(t, "Go", x, first, script, 35)
	}
}

// P24.3: a fork has the decisions ahead of a place, is at its end, and goes on alone.
func TestFork(t *testing.T) {
	first, script := ogres(t, 0), make([]int, 45)
	x := made(t, first, script)
	answers(t, "Go", x.Go(20), api.OK)
	for place := range 46 {
		f, e := x.Fork(place)
		answers(t, "Fork", e, api.OK)
		stands(t, "Fork", f, first, script[:place], place)
		answers(t, "Go behind the end", f.Go(place+1), api.ErrArg)
		last := len(duel.Ask(f.Duel()).Options) - 1
		answers(t, "Do", f.Do(last), api.OK)
		stands(t, "Do", f, first, append(slices.Clone(script[:place]), last), place+1)
		answers(t, "Go", f.Go(place/2), api.OK)
		stands(t, "Go", f, first, append(slices.Clone(script[:place]), last), place/2)
		stands(t, "what it was forked of", x, first, script, 20)
	}
	for _, place := range []int{-1, 46, 64, 1 << 62, -1 << 63} {
		if f, e := x.Fork(place); f != nil || e != api.ErrArg {
			t.Errorf("Fork(%d) = %v, %d", place, f, e)
		}
	}
}

// P24.3: a fork stays as it is when that which it was forked of goes elsewhere.
func TestForkStays(t *testing.T) {
	first, script := ogres(t, 0), make([]int, 40)
	x := made(t, first, script)
	f, e := x.Fork(36)
	answers(t, "Fork", e, api.OK)
	answers(t, "Go", x.Go(3), api.OK)
	answers(t, "Do", x.Do(1), api.OK)
	for place := 36; place >= 0; place-- {
		answers(t, "Go", f.Go(place), api.OK)
		stands(t, "Go", f, first, script[:36], place)
	}
	stands(t, "Do", x, first, []int{0, 0, 0, 1}, 4)
}

// P24.1 to P24.3: a trail that no call made.
func TestNone(t *testing.T) {
	var none *trail.Trail
	for _, x := range []*trail.Trail{none, new(trail.Trail), {}} {
		for _, n := range []int{0, 1, -1, api.MaxTrail} {
			answers(t, "Do", x.Do(n), api.ErrNil)
			answers(t, "Go", x.Go(n), api.ErrNil)
			if f, e := x.Fork(n); f != nil || e != api.ErrNil {
				t.Errorf("Fork(%d) = %v, %d", n, f, e)
			}
		}
		l, p := x.Script()
		if len(l) != 0 || p != 0 || x.Kept() != 0 || !duel.Same(x.Duel(), api.Duel{}) {
			t.Errorf("none has %v, %d, %d, %+v", l, p, x.Kept(), x.Duel())
		}
	}
}
