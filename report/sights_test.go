package report_test

import (
	"reflect"
	"runtime"
	"slices"
	"strings"
	"sync"
	"testing"
	"time"

	"joust/api"
	"joust/duel"
	"joust/report"
	"joust/view"
)

// P20.2: what each player sees, at the beginning and behind each number; of no player nothing.
func TestSights(t *testing.T) {
	for _, c := range stories() {
		numbers := script(t, c.decks, c.record)
		for who := range uint8(2) {
			d, _ := report.Load(pool, c.decks)
			views := report.Sights(pool, c.decks, numbers, who)
			if len(views) != len(numbers)+1 {
				t.Fatalf("%s: %d views of %d numbers", c.name, len(views), len(numbers))
			}
			for i, v := range views {
				if want := view.Of(d, who); !view.Same(v, want) || !reflect.DeepEqual(v, want) {
					t.Fatalf("%s: %d: %d sees %+v\nnot %+v", c.name, i, who, v, want)
				}
				if i < len(numbers) {
					d, _ = duel.Decide(d, numbers[i])
				}
			}
		}
		for _, who := range []uint8{2, 3, 128, 255} {
			if l := report.Sights(pool, c.decks, numbers, who); len(l) != 0 {
				t.Errorf("%s: %d sees %d views", c.name, who, len(l))
			}
		}
	}
}

// P20.2: the lines of a record and the views are of one course: who is asked, at which stage; who isn't has no options.
func TestSightsAndRecord(t *testing.T) {
	for _, c := range stories() {
		numbers := script(t, c.decks, c.record)
		views := [2][]api.View{report.Sights(pool, c.decks, numbers, 0), report.Sights(pool, c.decks, numbers, 1)}
		i := 0
		for line := range strings.Lines(c.record) {
			asked, stage := line[0]-'0', line[2]-'0'
			for who, l := range views {
				v := l[i]
				if v.Asked != asked || v.Stage != stage {
					t.Errorf("%s: %d: %d sees that %d is asked at %d, not %q", c.name, i, who, v.Asked, v.Stage, line)
				}
				if isAsked := who == int(asked) && stage != api.AtOver; isAsked != (len(v.Options) > 0) {
					t.Errorf("%s: %d: %d has the options %v", c.name, i, who, v.Options)
				}
				if isRefused := strings.HasSuffix(line, "-\n"); isRefused && !view.Same(v, l[i+1]) {
					t.Errorf("%s: %d: %d sees something else behind what is refused", c.name, i, who)
				} else if !isRefused && reflect.DeepEqual(views[0][i], views[0][i+1]) && reflect.DeepEqual(views[1][i], views[1][i+1]) {
					t.Errorf("%s: %d: none sees something else behind %q", c.name, i, line)
				}
			}
			i++
		}
	}
}

// P20.2: a script without numbers has one view.
func TestSightsOfNothing(t *testing.T) {
	for who := range uint8(2) {
		for _, script := range [][]int{nil, {}} {
			l := report.Sights(pool, plain, script, who)
			if len(l) != 1 || l[0].Stage != api.AtLot || len(l[0].Pieces) != 10 || l[0].Asked != 0 || (len(l[0].Options) == 5) != (who == 0) {
				t.Errorf("Sights(%d): %+v", who, l)
			}
		}
	}
}

// Rule 8: calls at one time answer what calls one by one do, and none of their goroutines is left.
func TestAtOneTime(t *testing.T) {
	c := stories()[5]
	numbers := script(t, c.decks, c.record)
	want := [2][]api.View{report.Sights(pool, c.decks, numbers, 0), report.Sights(pool, c.decks, numbers, 1)}
	before := runtime.NumGoroutine()
	var all sync.WaitGroup
	for i := range 64 {
		all.Add(1)
		go func() {
			defer all.Done()
			if l := report.Sights(pool, c.decks, numbers, uint8(i%2)); !slices.EqualFunc(l, want[i%2], view.Same) {
				t.Errorf("Sights(%d) are others", i%2)
			}
			if s := report.Run(pool, c.decks, numbers); s != c.record+c.ending {
				t.Errorf("Run = %q", s)
			}
		}()
	}
	all.Wait()
	for range 100 {
		if runtime.NumGoroutine() <= before {
			return
		}
		time.Sleep(10 * time.Millisecond)
	}
	t.Errorf("%d goroutines, %d before", runtime.NumGoroutine(), before)
}

// P20.1, P20.2: scripts of many numbers, whose record is longer than any text that is read.
func TestLongScripts(t *testing.T) {
	const many = 20000
	script := slices.Concat(make([]int, 10), slices.Repeat([]int{99}, many), []int{0}, slices.Repeat([]int{-1}, many))
	want := lots(5, 5) + strings.Repeat(refused(0, api.AtIdle), many) + idle(0, api.OpSummon, 0, -1) + strings.Repeat(refused(1, api.AtAnswer), many) + "life 8000 8000\nturn 1 player 0\nstage 3\n"
	if s := report.Run(pool, plain, script); s != want {
		t.Errorf("Run: %d bytes, not %d", len(s), len(want))
	}
	l := report.Sights(pool, plain, script, 1)
	if len(l) != len(script)+1 {
		t.Fatalf("Sights: %d", len(l))
	}
	for i, v := range l {
		first := 10
		if i > many+10 {
			first = many + 11
		}
		if i >= 10 && !view.Same(v, l[first]) {
			t.Fatalf("Sights: %d is another one", i)
		}
	}
}
