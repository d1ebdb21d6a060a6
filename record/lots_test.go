package record_test

import (
	"math/rand/v2"
	"slices"
	"testing"

	"joust/api"
	"joust/duel"
	"joust/record"
)

// lots draws decks, scripts, and what is wrong with records.
type lots struct{ *rand.Rand }

func (l lots) yes(of int) bool { return l.IntN(of) == 0 }

func (l lots) decks(kinds int) [2][]int {
	var decks [2][]int
	for who := range decks {
		for range 8 + l.IntN(20) {
			decks[who] = append(decks[who], l.IntN(kinds))
		}
	}
	return decks
}

// script is numbers by lot, small ones mostly; which of them are options isn't asked.
func (l lots) script(size int) []int {
	script := make([]int, size)
	for i := range script {
		script[i] = l.IntN(1+l.IntN(9)) - l.IntN(2)*l.IntN(2)*l.IntN(2)
	}
	return script
}

// walk is a script of options by lot, of the last one mostly, with some numbers between that are none.
func (l lots) walk(d api.Duel, size int) []int {
	var script []int
	for range size {
		options := len(duel.Ask(d).Options)
		n := options - 1
		if l.yes(8) {
			n = noNumber(l.IntN(7), options)
		} else if options > 0 && l.yes(3) {
			n = l.IntN(options)
		}
		script = append(script, n)
		d, _ = duel.Decide(d, n)
	}
	return script
}

// played is a second reading of a script: each number that is below that of the options is one.
func played(d api.Duel, script []int) (api.Duel, []api.Line) {
	var lines []api.Line
	for _, n := range script {
		p := duel.Ask(d)
		l := api.Line{Who: p.Who, Stage: p.Stage}
		if x, e := duel.Decide(d, n); e == api.OK {
			d, l.Option = x, p.Options[n]
		} else {
			l.Refused = true
		}
		lines = append(lines, l)
	}
	return d, lines
}

// led is a second reading of where lines lead.
func led(d api.Duel, lines []api.Line) (api.Duel, bool) {
	for _, l := range lines {
		p := duel.Ask(d)
		if l.Who != p.Who || l.Stage != p.Stage {
			return d, false
		}
		if l.Refused {
			if l.Option != (api.Option{}) {
				return d, false
			}
			continue
		}
		found := false
		for n, o := range p.Options {
			if o == l.Option {
				d, _ = duel.Decide(d, n)
				found = true
				break
			}
		}
		if !found {
			return d, false
		}
	}
	return d, true
}

// changed is lines of which something is otherwise.
func (l lots) changed(lines []api.Line) []api.Line {
	lines = slices.Clone(lines)
	i, k := l.IntN(len(lines)), l.IntN(len(lines))
	switch l.IntN(7) {
	case 0:
		lines = slices.Delete(lines, i, i+1)
	case 1:
		lines = slices.Insert(lines, i, lines[k])
	case 2:
		lines[i].Option = lines[k].Option
	case 3:
		lines[i], lines[k] = lines[k], lines[i]
	case 4:
		lines[i].Option.Arg += 1 - 2*l.IntN(2)
	case 5:
		lines = slices.Insert(lines, i, refused(lines[k].Who, lines[k].Stage))
	default:
		lines[i] = refused(lines[i].Who, lines[i].Stage)
	}
	return lines
}

// checked asks for all that is promised of a script; what is told is counted.
func (l lots) checked(t *testing.T, seen map[string]int, d api.Duel, script []int) api.Duel {
	t.Helper()
	was := duel.Copy(d)
	x, lines := record.Play(d, script)
	want, wanted := played(d, script)
	same(t, x, want, lines, wanted)
	cut := l.IntN(len(script) + 1)
	y, first := record.Play(d, script[:cut])
	y, second := record.Play(y, script[cut:])
	same(t, y, x, slices.Concat(first, second), lines)
	if z, e := record.Replay(d, lines); e != api.OK || !duel.Same(z, x) {
		t.Fatalf("Replay = %d", e)
	}
	text := record.Put(lines)
	if again, e := record.Get(text); e != api.OK || !slices.Equal(again, lines) {
		t.Fatalf("Get(%q) = %d", text, e)
	}
	for range 4 {
		wrong := l.changed(lines)
		z, e := record.Replay(d, wrong)
		switch want, ok := led(d, wrong); {
		case ok && (e != api.OK || !duel.Same(z, want)):
			t.Fatalf("Replay(%v) = %d", wrong, e)
		case !ok && (e != api.ErrArg || !duel.Same(z, d)):
			t.Fatalf("Replay(%v) = %d", wrong, e)
		case ok:
			seen["led"]++
		default:
			seen["not led"]++
		}
	}
	if !duel.Same(d, was) {
		t.Fatalf("the duel changed")
	}
	for _, l := range lines {
		if l.Refused {
			seen["refused"]++
		} else {
			seen[[]string{"lot", "idle", "order", "answer", "pick", "battle", "drop"}[l.Stage]]++
		}
	}
	return x
}

// P19.1, P19.3, P0.1: scripts by lot: against the second reading, cut somewhere, replayed, put and got.
func TestScriptsByLot(t *testing.T) {
	lot := lots{rand.New(rand.NewPCG(19, 2))}
	seen := map[string]int{}
	for i := range 60 {
		d := begin(t, lot.decks(len(pool(t))))
		d = lot.checked(t, seen, d, make([]int, len(d.Table.Pieces)))
		for range 12 {
			if i%2 == 0 {
				d = lot.checked(t, seen, d, lot.script(1+lot.IntN(30)))
			} else {
				d = lot.checked(t, seen, d, lot.walk(d, 1+lot.IntN(30)))
			}
		}
		if d.Stage == api.AtOver {
			seen["over"]++
		}
	}
	for what, least := range map[string]int{"lot": 500, "idle": 500, "order": 100, "answer": 500, "pick": 100, "battle": 50, "drop": 20, "over": 10, "refused": 1000, "led": 200, "not led": 200} {
		if seen[what] < least {
			t.Errorf("%s: %d", what, seen[what])
		}
	}
}
