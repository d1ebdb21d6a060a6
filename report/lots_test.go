package report_test

import (
	"math/rand/v2"
	"slices"
	"strconv"
	"strings"
	"testing"

	"joust/api"
	"joust/check"
	"joust/decks"
	"joust/duel"
	"joust/parse"
	"joust/report"
	"joust/view"
)

// loaded is a second reading of two texts.
func loaded(poolText, decksText string) (d api.Duel, wrong string) {
	words := func(what string, more ...any) string {
		for _, x := range more {
			switch x := x.(type) {
			case int:
				what += " " + strconv.Itoa(x)
			case string:
				what += " " + x
			}
		}
		return what + "\n"
	}
	kinds, f := parse.Pool(poolText)
	if f != (api.Fault{}) {
		return d, words("pool", int(f.E), f.At.Line, f.At.Col)
	}
	if i, e := check.Pool(kinds); e != 0 {
		return d, words("pool", int(e), kinds[i].Name)
	}
	both, f := decks.Read(decksText, kinds)
	if f != (api.Fault{}) {
		return d, words("decks", int(f.E), f.At.Line, f.At.Col)
	}
	d, _ = duel.Begin(kinds, both)
	return d, ""
}

// ending is a second reading of how a duel stands.
func ending(d api.Duel) string {
	text := "life A B\nturn N player P\nstage S\n"
	if d.Stage == api.AtOver {
		text += "over R W\n"
	}
	for letter, n := range map[string]int{"A": d.Table.Life[0], "B": d.Table.Life[1], "N": d.Table.Turn, "P": int(d.Table.Player), "S": int(d.Stage), "R": int(d.Reason), "W": int(d.Winner)} {
		text = strings.Replace(text, letter, strconv.Itoa(n), 1)
	}
	return text
}

// P20.1, P0.1: texts by lot, right ones and wrong ones: there is one line of what is wrong, or a duel.
func TestTextsByLot(t *testing.T) {
	lot := chance{rand.New(rand.NewPCG(20, 1))}
	seen := map[string]int{}
	for range 300 {
		size := 8 + lot.IntN(16)
		right, rightDecks := lot.pool(size), lot.decks(size)
		for range 20 {
			p, d := right, rightDecks
			if lot.yes(2) {
				p = lot.changed(p)
			}
			if lot.yes(2) {
				d = lot.changed(d)
			}
			if lot.yes(8) {
				d = lot.few(d)
			}
			want, line := loaded(p, d)
			is, s := report.Load(p, d)
			if s != line || !duel.Same(is, want) {
				t.Fatalf("Load(%q, %q) = %q, not %q", p, d, s, line)
			}
			if line == "" {
				line = ending(want)
			}
			if s := report.Run(p, d, nil); s != line {
				t.Fatalf("Run(%q, %q) = %q, not %q", p, d, s, line)
			}
			seen[strings.Join(strings.Fields(line)[:2], " ")]++
		}
	}
	for what, least := range map[string]int{"life 8000": 1000, "pool 3": 10, "pool 4": 10, "pool 5": 500, "pool 7": 20, "pool 9": 50, "decks 3": 20, "decks 4": 5, "decks 5": 200, "decks 7": 20, "decks 8": 50, "decks 9": 50} {
		if seen[what] < least {
			t.Errorf("%s: %d", what, seen[what])
		}
	}
}

// number is an option's, by lot: a turn isn't ended, nor anything passed, as long as there is much else; one who is lazy mostly takes the last one.
func (l chance) number(options []api.Option, lazy bool) int {
	n := l.IntN(len(options))
	if lazy && !l.yes(4) {
		return len(options) - 1
	}
	for range 2 {
		if do := options[n].Do; do == api.OpEnd || do == api.OpPass || do == api.OpLay {
			n = l.IntN(len(options))
		}
	}
	return n
}

// sound asks for what is promised of each state of a duel: P0.3, P0.4.
func sound(t *testing.T, d api.Duel, cards int) {
	t.Helper()
	x := d.Table
	for _, life := range x.Life {
		if life < 0 || life > api.MaxLife {
			t.Fatalf("a life of %d", life)
		}
	}
	places := map[[3]int]bool{}
	for id, p := range x.Pieces {
		place := [3]int{int(p.Has), int(p.Zone), p.At}
		if p.Zone != api.Nowhere && places[place] {
			t.Fatalf("two pieces are at %v", place)
		}
		places[place] = true
		isToken, isOnTable := id >= cards, p.Zone == api.Row || p.Zone == api.Back || p.Zone == api.Limbo
		if isToken != (p.Def == -1) || isToken && p.Zone != api.Row && p.Zone != api.Nowhere || !isToken && p.Zone == api.Nowhere || !isOnTable && p.Has != p.Owner {
			t.Fatalf("the piece %d is %+v", id, p)
		}
	}
	if len(d.Links) > api.MaxChain || d.Rounds > api.MaxRounds || x.Turn > api.MaxTurns {
		t.Fatalf("a duel that goes too far: %+v", d)
	}
}

// asked asks for what may be decided: P0.2.
func asked(t *testing.T, d api.Duel) []api.Option {
	t.Helper()
	p := duel.Ask(d)
	if (d.Stage == api.AtOver) != (len(p.Options) == 0) || p.Who > 1 || p.Stage != d.Stage {
		t.Fatalf("asked is %+v", p)
	}
	for i, o := range p.Options {
		if slices.Contains(p.Options[:i], o) {
			t.Fatalf("%v stands twice in %v", o, p.Options)
		}
		if _, e := duel.Decide(d, i); e != api.OK {
			t.Fatalf("%v of %v: %d", o, p, e)
		}
	}
	return p.Options
}

// course is a whole duel by lot: its numbers, its record, and what each of both sees.
type course struct {
	numbers []int
	lines   []string
	views   [2][]api.View
	duels   []api.Duel
}

func (c *course) watch(d api.Duel) {
	c.duels = append(c.duels, d)
	for who := range c.views {
		c.views[who] = append(c.views[who], view.Of(d, uint8(who)))
	}
}

// play is a duel till it is over, with some numbers between that are no options.
func (l chance) play(t *testing.T, d api.Duel, lazy bool) course {
	t.Helper()
	var c course
	cards := len(d.Table.Pieces)
	for behind := 0; behind < 3; {
		sound(t, d, cards)
		c.watch(d)
		options, p := asked(t, d), duel.Ask(d)
		if len(options) == 0 {
			behind++
		}
		if len(options) == 0 || l.yes(12) {
			c.numbers = append(c.numbers, noNumber(l.IntN(5), len(options)))
			c.lines = append(c.lines, refused(int(p.Who), int(p.Stage)))
			continue
		}
		n := l.number(options, lazy)
		o := options[n]
		c.numbers = append(c.numbers, n)
		c.lines = append(c.lines, did(int(p.Who), int(p.Stage), int(o.Do), o.Piece, o.Arg))
		d, _ = duel.Decide(d, n)
		if len(c.numbers) > 20000 {
			t.Fatalf("a duel without an end")
		}
	}
	c.watch(d)
	return c
}

// P20.1, P20.2, P0.1 to P0.4: duels by lot, of pools and decks by lot: each ends; their reports and views, cut anywhere.
func TestDuelsByLot(t *testing.T) {
	lot := chance{rand.New(rand.NewPCG(20, 2))}
	seen := map[string]int{}
	for i := range 60 {
		size := 10 + lot.IntN(14)
		poolText, decksText := lot.pool(size), lot.decks(size)
		d, wrong := report.Load(poolText, decksText)
		if wrong != "" {
			t.Fatalf("Load(%q, %q) = %q", poolText, decksText, wrong)
		}
		c := lot.play(t, d, i%3 == 0)
		for _, cut := range []int{0, lot.IntN(len(c.numbers)), lot.IntN(len(c.numbers)), len(c.numbers)} {
			want := strings.Join(c.lines[:cut], "") + ending(c.duels[cut])
			if s := report.Run(poolText, decksText, c.numbers[:cut]); s != want {
				t.Fatalf("Run(%q, %q, %v) = %q\nnot %q", poolText, decksText, c.numbers[:cut], s, want)
			}
			for who := range uint8(2) {
				if l := report.Sights(poolText, decksText, c.numbers[:cut], who); !slices.EqualFunc(l, c.views[who][:cut+1], view.Same) {
					t.Fatalf("Sights(%q, %q, %v, %d) are others", poolText, decksText, c.numbers[:cut], who)
				}
			}
		}
		over := c.duels[len(c.numbers)]
		seen[[]string{"", "by life", "by deck", "by turns", "by rounds"}[over.Reason]]++
		for _, d := range c.duels {
			seen[[]string{"lot", "idle", "order", "answer", "pick", "battle", "drop", "over"}[d.Stage]]++
		}
	}
	for what, least := range map[string]int{"lot": 500, "idle": 500, "order": 200, "answer": 1000, "pick": 100, "battle": 100, "drop": 20, "over": 60, "by life": 5, "by deck": 10} {
		if seen[what] < least {
			t.Errorf("%s: %d", what, seen[what])
		}
	}
}
