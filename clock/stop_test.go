package clock_test

import (
	"testing"

	"joust/api"
	"joust/clock"
)

// P28.2: who is in time has as much less, and more again, between the bounds.
func TestStop(t *testing.T) {
	const top = api.MaxTime
	for i, c := range []struct {
		was  api.Clock
		now  int
		left [2]int
	}{
		{running([2]int{60, 50}, 5, 0, 0, 100), 100, [2]int{65, 50}},
		{running([2]int{60, 50}, 5, 0, 0, 100), 130, [2]int{35, 50}},
		{running([2]int{60, 50}, 5, 0, 1, 100), 130, [2]int{60, 25}},
		{running([2]int{60, 50}, 5, 0, 0, 100), 160, [2]int{5, 50}},
		{running([2]int{60, 50}, 0, 0, 0, 100), 159, [2]int{1, 50}},
		{running([2]int{60, 50}, 0, 0, 0, 100), 160, [2]int{1, 50}},
		{running([2]int{60, 50}, 1, 0, 0, 100), 160, [2]int{1, 50}},
		{running([2]int{60, 50}, 1, 0, 0, 100), 159, [2]int{2, 50}},
		{running([2]int{60, 50}, 0, 20, 0, 100), 120, [2]int{40, 50}},
		{running([2]int{60, 50}, 3, 20, 1, 100), 120, [2]int{60, 33}},
		{running([2]int{60, 50}, 0, 60, 0, 100), 160, [2]int{1, 50}},
		{running([2]int{60, 50}, 0, 61, 0, 100), 160, [2]int{1, 50}},
		{running([2]int{top, top}, top, 0, 0, 0), 0, [2]int{top, top}},
		{running([2]int{top, 1}, top, 0, 0, 0), top, [2]int{top, 1}},
		{running([2]int{top, 1}, 0, 0, 0, 0), top, [2]int{1, 1}},
		{running([2]int{top - 5, 1}, 5, 0, 0, 0), 0, [2]int{top, 1}},
		{running([2]int{top - 5, 1}, 5, 0, 0, 0), 1, [2]int{top - 1, 1}},
		{running([2]int{top - 5, 1}, 6, 0, 0, 0), 0, [2]int{top, 1}},
		{running([2]int{1, 1}, top-1, 0, 1, top), top, [2]int{1, top}},
	} {
		want := c.was
		want.Left, want.On, want.Since = c.left, false, c.now
		if x, ok, e := clock.Stop(c.was, c.now); x != want || !ok || e != api.OK {
			t.Errorf("%d: Stop = %+v, %t, %d, not %+v", i, x, ok, e, want)
		}
	}
}

// P28.2: who used more than there was, or than may be used for one decision, fell, without more.
func TestFall(t *testing.T) {
	const top = api.MaxTime
	for i, c := range []struct {
		was api.Clock
		now int
	}{
		{running([2]int{60, 50}, 5, 0, 0, 100), 161},
		{running([2]int{60, 50}, 5, 0, 1, 100), 151},
		{running([2]int{60, 50}, 5, 0, 1, 100), top},
		{running([2]int{60, 50}, 5, 20, 0, 100), 121},
		{running([2]int{60, 50}, 5, 20, 1, 100), 121},
		{running([2]int{60, 50}, 5, 60, 0, 100), 161},
		{running([2]int{60, 50}, 5, 99, 0, 100), 161},
		{running([2]int{1, 1}, top, 0, 0, 0), 2},
		{running([2]int{top, top}, top, 1, 1, 0), 2},
		{running([2]int{top - 1, 9}, top, top, 0, 0), top},
	} {
		want := c.was
		want.Left[want.Who], want.Fell, want.On, want.Since = 0, want.Who, false, c.now
		if x, ok, e := clock.Stop(c.was, c.now); x != want || ok || e != api.OK || !clock.May(x) {
			t.Errorf("%d: Stop = %+v, %t, %d, not %+v", i, x, ok, e, want)
		}
	}
}

// P28.2: a clock that stands isn't stopped, be it that somebody fell.
func TestStopErrors(t *testing.T) {
	for _, c := range []api.Clock{still(9, 9), {Left: [2]int{0, 9}}, {Left: [2]int{9, 0}, Who: 1, Since: 4, Fell: 1}} {
		if x, ok, e := clock.Stop(c, 5); x != (api.Clock{}) || ok || e != api.ErrState {
			t.Errorf("Stop(%+v) = %+v, %t, %d", c, x, ok, e)
		}
	}
}

// P28.2: what each has left, whatever the Cap leaves of it; not below 0.
func TestLook(t *testing.T) {
	const top = api.MaxTime
	for i, c := range []struct {
		was   api.Clock
		now   int
		left  [2]int
		falls bool
	}{
		{still(7, 8), 0, [2]int{7, 8}, false},
		{still(7, 8), top, [2]int{7, 8}, false},
		{api.Clock{Left: [2]int{0, 8}}, 100, [2]int{0, 8}, false},
		{api.Clock{Left: [2]int{8, 0}, Who: 1, Fell: 1}, 100, [2]int{8, 0}, false},
		{running([2]int{7, 8}, 9, 0, 0, 10), 10, [2]int{7, 8}, false},
		{running([2]int{7, 8}, 9, 0, 0, 10), 13, [2]int{4, 8}, false},
		{running([2]int{7, 8}, 9, 0, 1, 10), 13, [2]int{7, 5}, false},
		{running([2]int{7, 8}, 9, 0, 0, 10), 17, [2]int{0, 8}, false},
		{running([2]int{7, 8}, 9, 0, 0, 10), 18, [2]int{0, 8}, true},
		{running([2]int{7, 8}, 9, 0, 1, 10), 99, [2]int{7, 0}, true},
		{running([2]int{7, 8}, 9, 3, 0, 10), 13, [2]int{4, 8}, false},
		{running([2]int{7, 8}, 9, 3, 0, 10), 14, [2]int{3, 8}, true},
		{running([2]int{7, 8}, 9, 3, 1, 10), 19, [2]int{7, 0}, true},
		{running([2]int{1, top}, 0, 0, 1, 0), top, [2]int{1, 0}, false},
		{running([2]int{1, top}, 0, 0, 0, 0), top, [2]int{0, top}, true},
	} {
		if left, falls, e := clock.Look(c.was, c.now); left != c.left || falls != c.falls || e != api.OK {
			t.Errorf("%d: Look = %v, %t, %d", i, left, falls, e)
		}
	}
}

// P28.2: the first tick of a fall, if there is one up to MaxTime.
func TestWhen(t *testing.T) {
	const top = api.MaxTime
	for i, c := range []struct {
		was  api.Clock
		when int
		ok   bool
	}{
		{running([2]int{60, 50}, 5, 0, 0, 100), 161, true},
		{running([2]int{60, 50}, 5, 0, 1, 100), 151, true},
		{running([2]int{60, 50}, 5, 20, 0, 100), 121, true},
		{running([2]int{60, 50}, 5, 55, 0, 100), 156, true},
		{running([2]int{60, 50}, 5, 55, 1, 100), 151, true},
		{running([2]int{1, 50}, 0, 0, 0, 0), 2, true},
		{running([2]int{top - 1, 50}, 0, 0, 0, 0), top, true},
		{running([2]int{top, 50}, 0, 0, 0, 0), 0, false},
		{running([2]int{top, 50}, 0, top-1, 0, 0), top, true},
		{running([2]int{top, 50}, 0, top, 0, 0), 0, false},
		{running([2]int{1, 50}, 0, 0, 0, top-2), top, true},
		{running([2]int{1, 50}, 0, 0, 0, top-1), 0, false},
		{running([2]int{1, 50}, 0, 0, 0, top), 0, false},
		{running([2]int{top, top}, 0, 0, 1, top), 0, false},
		{still(60, 50), 0, false},
		{api.Clock{Left: [2]int{0, 50}}, 0, false},
	} {
		if n, ok := clock.When(c.was); n != c.when || ok != c.ok {
			t.Errorf("%d: When = %d, %t, not %d, %t", i, n, ok, c.when, c.ok)
		}
	}
}

// P28.3: minutes and seconds; a star behind the one whose time runs, until it falls.
func TestText(t *testing.T) {
	const top = api.MaxTime
	for i, c := range []struct {
		was  api.Clock
		now  int
		want string
	}{
		{still(60, 60), 0, "1:00 1:00"},
		{still(1, 9), 0, "0:01 0:09"},
		{still(10, 59), 0, "0:10 0:59"},
		{still(61, 69), 0, "1:01 1:09"},
		{still(70, 119), 0, "1:10 1:59"},
		{still(120, 599), 0, "2:00 9:59"},
		{still(600, 3599), 0, "10:00 59:59"},
		{still(3600, 36000), 0, "60:00 600:00"},
		{still(top, top), top, "17895697:04 17895697:04"},
		{running([2]int{60, 50}, 0, 0, 0, 7), 7, "1:00* 0:50"},
		{running([2]int{60, 50}, 0, 0, 1, 7), 7, "1:00 0:50*"},
		{running([2]int{60, 50}, 0, 0, 1, 7), 52, "1:00 0:05*"},
		{running([2]int{60, 50}, 0, 0, 1, 7), 57, "1:00 0:00*"},
		{running([2]int{60, 50}, 0, 0, 1, 7), 58, "1:00 0:00 fell"},
		{running([2]int{60, 50}, 0, 0, 0, 7), 68, "0:00 fell 0:50"},
		{running([2]int{60, 50}, 0, 20, 0, 7), 27, "0:40* 0:50"},
		{running([2]int{60, 50}, 0, 20, 0, 7), 28, "0:39 fell 0:50"},
		{running([2]int{60, 50}, 0, 20, 1, 7), 28, "1:00 0:29 fell"},
		{api.Clock{Left: [2]int{0, 50}}, 9, "0:00 fell 0:50"},
		{api.Clock{Left: [2]int{0, 50}, Who: 1}, 9, "0:00 fell 0:50"},
		{api.Clock{Left: [2]int{50, 0}, Fell: 1}, 9, "0:50 0:00 fell"},
	} {
		if s := clock.Text(c.was, c.now); s != c.want {
			t.Errorf("%d: Text = %q, not %q", i, s, c.want)
		}
	}
}
