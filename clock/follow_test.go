package clock_test

import (
	"math/rand/v2"
	"testing"

	"joust/api"
	"joust/clock"
)

// small goes through clocks with small numbers, those that may not be, too.
func small(do func(c api.Clock)) {
	for n := range 6 * 6 * 5 * 6 * 3 * 2 * 4 * 4 {
		digit := func(base int) int {
			d := n % base
			n /= base
			return d
		}
		do(api.Clock{
			Left: [2]int{digit(6) - 1, digit(6) - 1}, More: digit(5) - 1, Cap: digit(6) - 1,
			Who: uint8(digit(3)), On: digit(2) == 1, Since: digit(4) - 1, Fell: uint8(digit(4)),
		})
	}
}

// may is a second reading of which small clocks may be.
func may(c api.Clock) bool {
	empty := [2]bool{c.Left[0] == 0, c.Left[1] == 0}
	switch c.Fell {
	case 0:
		if empty != [2]bool{true, false} || c.On {
			return false
		}
	case 1:
		if empty != [2]bool{false, true} || c.On {
			return false
		}
	case 2:
		if empty != [2]bool{} {
			return false
		}
	default:
		return false
	}
	return c.Left[0] >= 0 && c.Left[1] >= 0 && c.More >= 0 && c.Cap >= 0 && c.Who < 2 && c.Since >= 0
}

// gone goes on tick by tick: what each has left then, and whether somebody fell on the way.
func gone(c api.Clock, now int) (left [2]int, fell bool) {
	left = c.Left
	for tick := c.Since + 1; c.On && tick <= now; tick++ {
		if left[c.Who] == 0 || c.Cap > 0 && tick-c.Since > c.Cap {
			fell = true
		}
		if left[c.Who] > 0 {
			left[c.Who]--
		}
	}
	return left, fell
}

// stopped is a second reading of a clock that is stopped.
func stopped(c api.Clock, now int) api.Clock {
	left, fell := gone(c, now)
	c.On, c.Since, c.Left = false, now, left
	switch {
	case fell:
		c.Left[c.Who], c.Fell = 0, c.Who
	case left[c.Who]+c.More == 0:
		c.Left[c.Who] = 1
	default:
		c.Left[c.Who] += c.More
	}
	return c
}

// P28.1 to P28.4: all small clocks, at all small times, against the second readings; what comes of them may be; nobody falls ahead of When.
func TestSmall(t *testing.T) {
	count := 0
	small(func(c api.Clock) {
		if clock.May(c) != may(c) {
			t.Fatalf("May(%+v) = %t", c, !may(c))
		}
		if !may(c) {
			return
		}
		count++
		when, is := clock.When(c)
		if is != c.On {
			t.Fatalf("When(%+v) = %d, %t", c, when, is)
		}
		for now := c.Since; now < 12; now++ {
			holds(t, c, now, is && now >= when)
		}
	})
	if count < 1000 {
		t.Errorf("%d clocks", count)
	}
}

// holds tests Look, Stop and Start of one clock that may be, at one time at which it may be asked; it falls there or not.
func holds(t *testing.T, c api.Clock, now int, falls bool) {
	t.Helper()
	left, fell := gone(c, now)
	if got, is, e := clock.Look(c, now); got != left || is != fell || is != falls || e != api.OK {
		t.Fatalf("Look(%+v, %d) = %v, %t, %d", c, now, got, is, e)
	}
	x, ok, e := clock.Stop(c, now)
	switch {
	case !c.On && (x != (api.Clock{}) || ok || e != api.ErrState):
		t.Fatalf("Stop(%+v, %d) = %+v, %t, %d", c, now, x, ok, e)
	case c.On && (x != stopped(c, now) || ok == falls || e != api.OK || !clock.May(x)):
		t.Fatalf("Stop(%+v, %d) = %+v, %t, %d", c, now, x, ok, e)
	}
	for who := range uint8(2) {
		x, e := clock.Start(c, who, now)
		if may := !c.On && c.Fell == 2; may != (e == api.OK) || may != clock.May(x) {
			t.Fatalf("Start(%+v, %d, %d) = %+v, %d", c, who, now, x, e)
		}
	}
}

// P28.4, P0.10: games by lot: a clock behind each call may be; without More each has the base less what was used, 1 at least; one falls just behind When, and then for good.
func TestGames(t *testing.T) {
	lot := rand.New(rand.NewPCG(28, 4))
	fallen := 0
	for range 3000 {
		base, most := 1+lot.IntN(40), lot.IntN(3)*lot.IntN(12)
		c, now := of(t, base, 0, most), lot.IntN(50)
		left := [2]int{base, base}
		for c.Fell == 2 && now < 400 {
			who := uint8(lot.IntN(2))
			c = started(t, c, who, now)
			when, ok := clock.When(c)
			now += lot.IntN(lot.IntN(20) + 1)
			x, in, e := clock.Stop(c, now)
			if e != api.OK || !ok || !clock.May(c) || !clock.May(x) || in != (now < when) {
				t.Fatalf("Stop(%+v, %d) = %+v, %t, %d", c, now, x, in, e)
			}
			left[who] = max(left[who]-(now-c.Since), 1)
			if !in {
				left[who] = 0
				fallen++
			}
			if x.Left != left {
				t.Fatalf("Stop(%+v, %d) = %+v, not %v", c, now, x, left)
			}
			c = x
		}
		stays(t, c, now)
	}
	if fallen < 2000 {
		t.Errorf("%d of 3000 games end by a fall", fallen)
	}
}

// stays tests that nothing goes on when somebody fell.
func stays(t *testing.T, c api.Clock, now int) {
	t.Helper()
	if c.Fell == 2 {
		return
	}
	for who := range uint8(2) {
		if _, e := clock.Start(c, who, now); e != api.ErrState {
			t.Fatalf("Start(%+v): %d", c, e)
		}
	}
	if _, _, e := clock.Stop(c, now); e != api.ErrState {
		t.Fatalf("Stop(%+v): %d", c, e)
	}
	if _, falls, e := clock.Look(c, now); falls || e != api.OK {
		t.Fatalf("Look(%+v): %t, %d", c, falls, e)
	}
}

// P28.4, P0.10: with the greatest More, too, a clock may be behind each call, and time ends: at MaxTime nothing can be used any more.
func TestLongGames(t *testing.T) {
	lot := rand.New(rand.NewPCG(28, 10))
	for range 300 {
		c, now := of(t, 1+lot.IntN(api.MaxTime), lot.IntN(api.MaxTime+1), 0), 0
		for c.Fell == 2 && now < api.MaxTime {
			c = started(t, c, uint8(lot.IntN(2)), now)
			when, ok := clock.When(c)
			now = min(now+1+lot.IntN(api.MaxTime/4), api.MaxTime)
			x, in, e := clock.Stop(c, now)
			if e != api.OK || !clock.May(x) || in != (!ok || now < when) {
				t.Fatalf("Stop(%+v, %d) = %+v, %t, %d", c, now, x, in, e)
			}
			want := max(min(int64(c.Left[c.Who])-int64(now-c.Since)+int64(c.More), api.MaxTime), 1)
			if in && int64(x.Left[c.Who]) != want {
				t.Fatalf("Stop(%+v, %d) = %+v", c, now, x)
			}
			c = x
		}
		stays(t, c, now)
	}
}
