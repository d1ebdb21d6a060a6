package record_test

import (
	"slices"
	"testing"

	"joust/api"
	"joust/duel"
	"joust/record"
)

// passes are two passes, the first one's ahead.
func passes(who uint8) []api.Line {
	return []api.Line{line(who, api.AtAnswer, api.OpPass, -1, -1), line(1-who, api.AtAnswer, api.OpPass, -1, -1)}
}

// storyDecks have the numbers 0 to 5 and 6 to 14.
var storyDecks = [2][]int{{ogre, seer, sage, gust, ogre, ogre}, {bar, ogre, ogre, ogre, ogre, ogre, ogre, ogre, ogre}}

// story is a whole duel of storyDecks, with a decision at each stage.
func story() []api.Line {
	var lots []api.Line
	for range 6 {
		lots = append(lots, line(0, api.AtLot, api.OpLot, -1, 0))
	}
	for range 9 {
		lots = append(lots, line(1, api.AtLot, api.OpLot, -1, 0))
	}
	return slices.Concat(lots, // 0 has 0 to 4 in hand, 1 has 6 to 10
		[]api.Line{line(0, api.AtIdle, api.OpSummon, 1, -1)}, passes(1),
		[]api.Line{line(0, api.AtOrder, api.OpCard, 1, 1), line(0, api.AtOrder, api.OpCard, 1, 0)}, passes(1), // 11 is milled
		passes(0), // the summon's window
		[]api.Line{line(0, api.AtIdle, api.OpEnd, -1, -1)}, passes(0),
		[]api.Line{line(1, api.AtIdle, api.OpBattle, -1, -1), line(1, api.AtBattle, api.OpEnd, -1, -1)}, // 12 is drawn
		[]api.Line{line(1, api.AtIdle, api.OpSummon, 7, -1)}, passes(0),
		[]api.Line{line(0, api.AtOrder, api.OpCard, 1, 1), line(0, api.AtOrder, api.OpPass, -1, -1)}, passes(1), // 13 is milled, what may come is let go
		passes(1),
		[]api.Line{line(1, api.AtIdle, api.OpEnd, -1, -1)}, passes(1),
		[]api.Line{line(0, api.AtIdle, api.OpPlay, 3, 0), line(0, api.AtPick, api.OpPick, 1, -1), line(0, api.AtPick, api.OpPick, 7, -1)}, passes(1), // both are bounced
		[]api.Line{line(0, api.AtIdle, api.OpSummon, 0, -1)}, passes(1), passes(0),
		[]api.Line{line(0, api.AtIdle, api.OpBattle, -1, -1), line(0, api.AtBattle, api.OpAttack, 0, -1)}, passes(0),
		[]api.Line{line(0, api.AtBattle, api.OpEnd, -1, -1), line(0, api.AtIdle, api.OpEnd, -1, -1)}, passes(0),
		[]api.Line{line(1, api.AtIdle, api.OpEnd, -1, -1)}, passes(1), // 1 has 7 in hand
		[]api.Line{line(1, api.AtDrop, api.OpDrop, 6, -1)}) // 0 is to draw, and has no card
}

// told is a script of lines, and the duel behind each of them: decision by decision.
func told(t *testing.T, d api.Duel, lines []api.Line) ([]int, []api.Duel) {
	t.Helper()
	var script []int
	duels := []api.Duel{d}
	for i, l := range lines {
		p := duel.Ask(d)
		n := slices.Index(p.Options, l.Option)
		if n < 0 || l.Who != p.Who || l.Stage != p.Stage {
			t.Fatalf("%d: no %v of %v", i, l, p)
		}
		d = decided(t, d, n)
		script, duels = append(script, n), append(duels, d)
	}
	return script, duels
}

// P19.1, P0.1: a whole duel: who is asked, at which stage, and the option, of each decision.
func TestStory(t *testing.T) {
	d, lines := begin(t, storyDecks), story()
	script, duels := told(t, d, lines)
	over := duels[len(lines)]
	if over.Stage != api.AtOver || over.Reason != api.ByDeck || over.Winner != 1 || over.Table.Life != [2]int{api.FirstLife, api.FirstLife - 300 - 1800} {
		t.Fatalf("the story ends otherwise: %+v", over)
	}
	x, l := record.Play(d, script)
	same(t, x, over, l, lines)
	for i := range len(lines) + 1 {
		x, l := record.Play(d, script[:i])
		same(t, x, duels[i], l, lines[:i])
		x, l = record.Play(duels[i], script[i:])
		same(t, x, over, l, lines[i:])
		if y, e := record.Replay(d, lines[:i]); e != api.OK || !duel.Same(y, duels[i]) {
			t.Errorf("Replay of %d lines: %d", i, e)
		}
		if y, e := record.Replay(duels[i], lines[i:]); e != api.OK || !duel.Same(y, over) {
			t.Errorf("Replay but of %d lines: %d", i, e)
		}
	}
}

// P19.1, P0.1: a number that is no option is refused, at whatever stage, and changes nothing; behind the end each number is.
func TestRefused(t *testing.T) {
	d := begin(t, storyDecks)
	script, duels := told(t, d, story())
	var numbers []int
	var lines []api.Line
	seen := map[uint8]int{}
	for i, l := range append(story(), api.Line{Stage: api.AtOver}) {
		options := len(duel.Ask(duels[i]).Options)
		for k := range i%8 + 1 {
			numbers, lines = append(numbers, noNumber(i+k, options)), append(lines, refused(l.Who, l.Stage))
			seen[l.Stage]++
		}
		if i < len(script) {
			numbers, lines = append(numbers, script[i]), append(lines, l)
		}
	}
	for _, n := range []int{0, 1, -1} {
		numbers, lines = append(numbers, n), append(lines, refused(0, api.AtOver))
	}
	if len(seen) != api.AtOver+1 {
		t.Errorf("stages: %v", seen)
	}
	x, l := record.Play(d, numbers)
	same(t, x, duels[len(script)], l, lines)
	if y, e := record.Replay(d, lines); e != api.OK || !duel.Same(y, x) {
		t.Errorf("Replay: %d", e)
	}
}

// P19.1: the last option is one, the next number is none.
func TestLastOption(t *testing.T) {
	_, duels := told(t, begin(t, storyDecks), story())
	for _, d := range duels {
		p := duel.Ask(d)
		for n, o := range p.Options {
			x, l := record.Play(d, []int{n})
			same(t, x, decided(t, d, n), l, []api.Line{{Who: p.Who, Stage: p.Stage, Option: o}})
		}
		x, l := record.Play(d, []int{len(p.Options)})
		same(t, x, d, l, []api.Line{refused(p.Who, p.Stage)})
	}
}

// P19.1: without numbers the duel is as it was, and without lines.
func TestNoScript(t *testing.T) {
	_, duels := told(t, begin(t, storyDecks), story())
	for _, d := range append(duels, api.Duel{}) {
		for _, script := range [][]int{nil, {}} {
			x, l := record.Play(d, script)
			same(t, x, d, l, nil)
		}
		for _, lines := range [][]api.Line{nil, {}} {
			if x, e := record.Replay(d, lines); e != api.OK || !duel.Same(x, d) {
				t.Errorf("Replay of nothing: %d", e)
			}
		}
	}
}

// P19.1: a record of which one thing is something else leads nowhere: the duel is as it was.
func TestWrongLines(t *testing.T) {
	d := begin(t, storyDecks)
	var lines []api.Line
	for i, l := range append(story(), refused(0, api.AtOver), refused(0, api.AtOver)) {
		if i%3 == 0 && !l.Refused {
			lines = append(lines, refused(l.Who, l.Stage))
		}
		lines = append(lines, l)
	}
	if _, e := record.Replay(d, lines); e != api.OK {
		t.Fatalf("Replay: %d", e)
	}
	for i := range lines {
		for k, change := range []func(l *api.Line){
			func(l *api.Line) { l.Who = 1 - l.Who },
			func(l *api.Line) { l.Who += 2 },
			func(l *api.Line) { l.Stage++ },
			func(l *api.Line) { l.Stage = (l.Stage + 1) % (api.AtOver + 1) },
			func(l *api.Line) { l.Stage += 128 },
			func(l *api.Line) { l.Option.Do += 16 },
			func(l *api.Line) { l.Option.Piece += 100 },
			func(l *api.Line) { l.Option.Piece -= 100 },
			func(l *api.Line) { l.Option.Arg += 100 },
			func(l *api.Line) { l.Option.Arg -= 100 },
			func(l *api.Line) { l.Refused = !l.Refused },
			func(l *api.Line) { l.Option, l.Refused = option(api.OpSummon, 5, -1), true },
			func(l *api.Line) { l.Option, l.Refused = option(0, 0, 1), true },
			func(l *api.Line) { l.Option, l.Refused = api.Option{}, false },
		} {
			wrong := slices.Clone(lines)
			change(&wrong[i])
			if x, e := record.Replay(d, wrong); e != api.ErrArg || !duel.Same(x, d) {
				t.Errorf("%d, %d: Replay = %d", i, k, e)
			}
		}
	}
}

// P19.1: an option of another moment is none; nor is any behind the end.
func TestOtherMoments(t *testing.T) {
	lines := story()
	_, duels := told(t, begin(t, storyDecks), lines)
	for i, d := range duels {
		options := duel.Ask(d).Options
		for _, l := range lines {
			p := duel.Ask(d)
			l.Who, l.Stage = p.Who, p.Stage
			x, e := record.Replay(d, []api.Line{l})
			if n := slices.Index(options, l.Option); n < 0 {
				if e != api.ErrArg || !duel.Same(x, d) {
					t.Errorf("%d: Replay(%v) = %d", i, l, e)
				}
			} else if e != api.OK || !duel.Same(x, decided(t, d, n)) {
				t.Errorf("%d: Replay(%v) = %d", i, l, e)
			}
		}
	}
}
