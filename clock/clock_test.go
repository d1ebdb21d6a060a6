package clock_test

import (
	"math"
	"testing"

	"joust/api"
	"joust/clock"
)

// of is a new clock that must be.
func of(t *testing.T, base, more, most int) api.Clock {
	t.Helper()
	c, e := clock.New(base, more, most)
	if e != api.OK {
		t.Fatalf("New(%d, %d, %d): %d", base, more, most, e)
	}
	return c
}

// started is such a clock with a player's time running.
func started(t *testing.T, c api.Clock, who uint8, now int) api.Clock {
	t.Helper()
	c, e := clock.Start(c, who, now)
	if e != api.OK {
		t.Fatalf("Start(%d, %d): %d", who, now, e)
	}
	return c
}

// still is a clock that stands, with that left.
func still(left0, left1 int) api.Clock {
	return api.Clock{Left: [2]int{left0, left1}, Fell: 2}
}

// running is a clock on which a player's time runs.
func running(left [2]int, more, most int, who uint8, since int) api.Clock {
	return api.Clock{Left: left, More: more, Cap: most, Who: who, On: true, Since: since, Fell: 2}
}

// The chapter's example.
func TestExample(t *testing.T) {
	c := of(t, 60, 5, 0)
	if s := clock.Text(c, 0); s != "1:00 1:00" {
		t.Errorf("Text = %q", s)
	}
	c = started(t, c, 0, 100)
	if left, falls, e := clock.Look(c, 130); left != [2]int{30, 60} || falls || e != api.OK {
		t.Errorf("Look = %v, %t, %d", left, falls, e)
	}
	if n, ok := clock.When(c); n != 161 || !ok {
		t.Errorf("When = %d, %t", n, ok)
	}
	if x, ok, e := clock.Stop(c, 130); x.Left != [2]int{35, 60} || !ok || e != api.OK {
		t.Errorf("Stop = %+v, %t, %d", x, ok, e)
	}
}

// P28.1: both have the base, and nobody's time runs; the least and the greatest numbers.
func TestNew(t *testing.T) {
	for _, l := range [][3]int{{60, 5, 20}, {1, 0, 0}, {1, api.MaxTime, 0}, {1, 0, api.MaxTime}, {api.MaxTime, api.MaxTime, api.MaxTime}} {
		want := api.Clock{Left: [2]int{l[0], l[0]}, More: l[1], Cap: l[2], Fell: 2}
		if c, e := clock.New(l[0], l[1], l[2]); c != want || e != api.OK || !clock.May(c) {
			t.Errorf("New(%d) = %+v, %d", l, c, e)
		}
	}
	for _, l := range [][3]int{
		{0, 5, 20}, {-1, 5, 20}, {api.MaxTime + 1, 5, 20}, {math.MinInt, 5, 20}, {math.MaxInt, 5, 20},
		{60, -1, 20}, {60, api.MaxTime + 1, 20}, {60, math.MinInt, 20}, {60, math.MaxInt, 20},
		{60, 5, -1}, {60, 5, api.MaxTime + 1}, {60, 5, math.MinInt}, {60, 5, math.MaxInt}, {0, 0, 0}, {-1, -1, -1},
	} {
		if c, e := clock.New(l[0], l[1], l[2]); c != (api.Clock{}) || e != api.ErrArg {
			t.Errorf("New(%d) = %+v, %d", l, c, e)
		}
	}
}

// P28.1: clocks that may be, at the bounds of each field.
func TestMay(t *testing.T) {
	for i, c := range []api.Clock{
		still(1, 1),
		still(api.MaxTime, 1),
		still(1, api.MaxTime),
		running([2]int{1, 1}, 0, 0, 0, 0),
		running([2]int{1, 1}, api.MaxTime, api.MaxTime, 1, api.MaxTime),
		{Left: [2]int{9, 9}, Who: 1, Since: 7, Fell: 2},
		{Left: [2]int{0, 9}, Fell: 0},
		{Left: [2]int{9, 0}, Fell: 1},
		{Left: [2]int{0, api.MaxTime}, More: 3, Cap: 4, Who: 1, Since: 5, Fell: 0},
	} {
		if !clock.May(c) {
			t.Errorf("%d: may not be: %+v", i, c)
		}
	}
}

// wrong are clocks that may not be, each for one cause.
func wrong() []api.Clock {
	var l []api.Clock
	for _, set := range []func(c *api.Clock){
		func(c *api.Clock) { c.Left[0] = 0 },
		func(c *api.Clock) { c.Left[1] = 0 },
		func(c *api.Clock) { c.Left[0] = -1 },
		func(c *api.Clock) { c.Left[1] = math.MinInt },
		func(c *api.Clock) { c.Left[0] = api.MaxTime + 1 },
		func(c *api.Clock) { c.Left[1] = math.MaxInt },
		func(c *api.Clock) { c.More = -1 },
		func(c *api.Clock) { c.More = math.MinInt },
		func(c *api.Clock) { c.More = api.MaxTime + 1 },
		func(c *api.Clock) { c.More = math.MaxInt },
		func(c *api.Clock) { c.Cap = -1 },
		func(c *api.Clock) { c.Cap = math.MinInt },
		func(c *api.Clock) { c.Cap = api.MaxTime + 1 },
		func(c *api.Clock) { c.Cap = math.MaxInt },
		func(c *api.Clock) { c.Who = 2 },
		func(c *api.Clock) { c.Who = 255 },
		func(c *api.Clock) { c.Since = -1 },
		func(c *api.Clock) { c.Since = math.MinInt },
		func(c *api.Clock) { c.Since = api.MaxTime + 1 },
		func(c *api.Clock) { c.Since = math.MaxInt },
		func(c *api.Clock) { c.Fell = 3 },
		func(c *api.Clock) { c.Fell = 255 },
		func(c *api.Clock) { c.Fell = 0 },
		func(c *api.Clock) { c.Fell = 1 },
		func(c *api.Clock) { c.Left = [2]int{} },
		func(c *api.Clock) { c.Left, c.Fell = [2]int{}, 0 },
		func(c *api.Clock) { c.Left, c.Fell = [2]int{}, 1 },
		func(c *api.Clock) { c.Left[0], c.Fell = 0, 1 },
		func(c *api.Clock) { c.Left[1], c.Fell = 0, 0 },
		func(c *api.Clock) { c.Left[0], c.Fell = -1, 0 },
	} {
		for _, c := range []api.Clock{still(9, 9), running([2]int{9, 9}, 1, 1, 1, 1)} {
			set(&c)
			l = append(l, c)
		}
	}
	for who := range uint8(2) {
		c := running([2]int{9, 9}, 0, 0, who, 0)
		c.Left[0], c.Fell = 0, 0
		l = append(l, c)
		c = running([2]int{9, 9}, 0, 0, who, 0)
		c.Left[1], c.Fell = 0, 1
		l = append(l, c)
	}
	return append(l, api.Clock{})
}

// P28.1 to P28.3: of a clock that may not be each call says so, and answers nothing else.
func TestWrongClocks(t *testing.T) {
	for i, c := range wrong() {
		if clock.May(c) {
			t.Errorf("%d: may be: %+v", i, c)
		}
		for _, now := range []int{5, 1, api.MaxTime} {
			refused(t, c, 0, now, api.ErrArg)
		}
		if n, ok := clock.When(c); n != 0 || ok {
			t.Errorf("%d: When = %d, %t", i, n, ok)
		}
	}
}

// refused tests that Start, Stop, Look and Text answer nothing but an error.
func refused(t *testing.T, c api.Clock, who uint8, now int, want api.Errno) {
	t.Helper()
	if x, e := clock.Start(c, who, now); x != (api.Clock{}) || e != want {
		t.Errorf("Start(%+v, %d, %d) = %+v, %d", c, who, now, x, e)
	}
	if x, ok, e := clock.Stop(c, now); x != (api.Clock{}) || ok || e != want {
		t.Errorf("Stop(%+v, %d) = %+v, %t, %d", c, now, x, ok, e)
	}
	if left, falls, e := clock.Look(c, now); left != [2]int{} || falls || e != want {
		t.Errorf("Look(%+v, %d) = %v, %t, %d", c, now, left, falls, e)
	}
	if s := clock.Text(c, now); s != "" {
		t.Errorf("Text(%+v, %d) = %q", c, now, s)
	}
}

// P28.1 to P28.3: a now that is no time, or ahead of Since, may not be, whatever the clock's state is (rule 2: that is found first).
func TestWrongNow(t *testing.T) {
	fell := api.Clock{Left: [2]int{0, 9}, Since: 7}
	stands := still(9, 9)
	stands.Since = 7
	for _, c := range []api.Clock{stands, fell, running([2]int{9, 9}, 1, 0, 0, 7)} {
		for _, now := range []int{-1, 0, 6, api.MaxTime + 1, math.MinInt, math.MaxInt} {
			refused(t, c, 0, now, api.ErrArg)
		}
		if _, _, e := clock.Look(c, 7); e != api.OK {
			t.Errorf("Look(%+v, 7): %d", c, e)
		}
	}
	refused(t, still(9, 9), 0, -1, api.ErrArg)
}

// P28.1: the player's time runs since now; all else stays.
func TestStart(t *testing.T) {
	c := api.Clock{Left: [2]int{3, 4}, More: 5, Cap: 6, Who: 1, Since: 7, Fell: 2}
	for who := range uint8(2) {
		for _, now := range []int{7, 8, api.MaxTime} {
			want := running([2]int{3, 4}, 5, 6, who, now)
			if x, e := clock.Start(c, who, now); x != want || e != api.OK {
				t.Errorf("Start(%d, %d) = %+v, %d", who, now, x, e)
			}
		}
	}
}

// P28.1: no player may not be, ahead of the state; a clock that runs, or on which somebody fell, isn't started.
func TestStartErrors(t *testing.T) {
	clocks := []api.Clock{running([2]int{9, 9}, 0, 0, 1, 0), {Left: [2]int{0, 9}}, {Left: [2]int{9, 0}, Fell: 1}}
	for _, c := range append(clocks, still(9, 9)) {
		for _, who := range []uint8{2, 3, 255} {
			if x, e := clock.Start(c, who, 5); x != (api.Clock{}) || e != api.ErrArg {
				t.Errorf("Start(%+v, %d) = %+v, %d", c, who, x, e)
			}
		}
	}
	for _, c := range clocks {
		for who := range uint8(2) {
			if x, e := clock.Start(c, who, 5); x != (api.Clock{}) || e != api.ErrState {
				t.Errorf("Start(%+v, %d) = %+v, %d", c, who, x, e)
			}
		}
	}
}
