package move_test

import (
	"math/rand/v2"
	"regexp"
	"slices"
	"strconv"
	"strings"
	"testing"

	"joust/api"
	"joust/duel"
	"joust/move"
)

// lots draws decks, decisions, and what may be hidden.
type lots struct{ *rand.Rand }

func (l lots) yes(of int) bool { return l.IntN(of) == 0 }

func (l lots) deck(kinds int) []int {
	var deck []int
	for range 10 + l.IntN(api.MaxDeck-9) {
		deck = append(deck, l.IntN(kinds))
	}
	return deck
}

// number is an option's, by lot: one who is lazy mostly takes the last one; else a turn isn't ended, nor anything passed, as long as there is much else.
func (l lots) number(options []api.Option, lazy bool) int {
	n := l.IntN(len(options))
	if lazy && !l.yes(4) {
		return len(options) - 1
	}
	for range 2 {
		if do := options[n].Do; do == api.OpEnd || do == api.OpPass {
			n = l.IntN(len(options))
		}
	}
	return n
}

// shapes are what texts of options may look like; # is a number, @ a piece.
var shapes = []struct {
	do uint8
	s  string
}{
	{api.OpPass, `pass`}, {api.OpBattle, `battle`}, {api.OpEnd, `end`}, {api.OpLot, `lot #`},
	{api.OpCard, `card @ #`}, {api.OpPlay, `play @ #`},
	{api.OpSummon, `summon @`}, {api.OpSummon, `summon @ for @`}, {api.OpSet, `set @`}, {api.OpSet, `set @ for @`},
	{api.OpLay, `lay @`}, {api.OpTurn, `turn @`}, {api.OpPick, `pick @`}, {api.OpDrop, `drop @`},
	{api.OpAttack, `attack @ at @`}, {api.OpAttack, `attack @ direct`},
}

var numbers, pieces = `(0|[1-9][0-9]*)`, `((?:my|their) (?:deck|hand|row|back|grave|exile|limbo) (?:0|[1-9][0-9]*))`

var matchers = func() (l []*regexp.Regexp) {
	for _, shape := range shapes {
		l = append(l, regexp.MustCompile("^"+strings.NewReplacer("#", numbers, "@", pieces).Replace(shape.s)+"$"))
	}
	return l
}()

// pieceAt is the piece that some words are about, read word by word; -1, if there is none.
func pieceAt(x api.Table, who uint8, words string) int {
	l := strings.Split(words, " ")
	has, zone := who, slices.Index([]string{"deck", "hand", "row", "back", "grave", "exile", "limbo"}, l[1])
	if l[0] == "their" {
		has = 1 - who
	}
	at, _ := strconv.Atoi(l[2])
	return slices.IndexFunc(x.Pieces, func(p api.Piece) bool { return p.Has == has && int(p.Zone) == zone && p.At == at })
}

// meant is the option that a text tells, by the shapes.
func meant(x api.Table, who uint8, s string) (o api.Option, ok bool) {
	for i, m := range matchers {
		parts := m.FindStringSubmatch(s)
		if parts == nil {
			continue
		}
		if ok {
			return o, false
		}
		about := [2]int{-1, -1}
		for j, part := range parts[1:] {
			if n, e := strconv.Atoi(part); e == nil {
				about[1] = n
			} else {
				about[j] = pieceAt(x, who, part)
			}
		}
		o, ok = api.Option{Do: shapes[i].do, Piece: about[0], Arg: about[1]}, true
	}
	return o, ok
}

// asked asks for all that may be said: P21.2, P21.3.
func asked(t *testing.T, d api.Duel) []string {
	t.Helper()
	p, texts := duel.Ask(d), move.All(d)
	if len(texts) != len(p.Options) || len(texts) == 0 {
		t.Fatalf("All = %q of %v", texts, p)
	}
	for n, s := range texts {
		if o, ok := meant(d.Table, p.Who, s); !ok || o != p.Options[n] {
			t.Fatalf("%q is %v (%t), not %v", s, o, ok, p.Options[n])
		}
		if slices.Contains(texts[:n], s) {
			t.Fatalf("%q twice: %q", s, texts)
		}
	}
	return texts
}

// led asks that some of the texts lead to their options.
func (l lots) led(t *testing.T, d api.Duel, texts []string) {
	t.Helper()
	for n, s := range texts {
		if len(texts) > 10 && !l.yes(len(texts)/5) {
			continue
		}
		if text, e := move.Text(d, n); text != s || e != api.OK {
			t.Fatalf("Text(%d) = %q, %d; not %q", n, text, e, s)
		}
		if i, e := move.Parse(d, s); i != n || e != api.OK {
			t.Fatalf("Parse(%q) = %d, %d; not %d", s, i, e, n)
		}
		wrong := l.changed(s)
		if i, e := move.Parse(d, wrong); i != max(slices.Index(texts, wrong), 0) || (e == api.OK) != slices.Contains(texts, wrong) || e != api.OK && e != api.ErrNone {
			t.Fatalf("Parse(%q) = %d, %d of %q", wrong, i, e, texts)
		}
	}
}

// changed is a text with something less, more, or else in it.
func (l lots) changed(s string) string {
	at := l.IntN(len(s))
	return s[:at] + []string{"", " ", "1", "0", "my", "x"}[l.IntN(6)] + s[at+l.IntN(2):]
}

// found asks for where pieces are, of both, and that they are found there: P21.1.
func found(t *testing.T, x api.Table) {
	t.Helper()
	for who := range uint8(2) {
		texts := map[string]int{}
		for id, p := range x.Pieces {
			s, ok := move.Where(x, who, id)
			if ok != (p.Zone != api.Nowhere) {
				t.Fatalf("Where(%d, %d) = %q, %t of %+v", who, id, s, ok, p)
			}
			if !ok {
				continue
			}
			if _, twice := texts[s]; twice || pieceAt(x, who, s) != id {
				t.Fatalf("Where(%d, %d) = %q of %+v", who, id, s, p)
			}
			texts[s] = id
			if n, ok := move.Find(x, who, s); n != id || !ok {
				t.Fatalf("Find(%d, %q) = %d, %t; not %d", who, s, n, ok, id)
			}
		}
	}
}

// otherwise is a duel in which what a player does not know is something else, that may be there.
func (l lots) otherwise(d api.Duel, who uint8) api.Duel {
	d = duel.Copy(d)
	for id, p := range d.Table.Pieces {
		isHeld := p.Zone == api.Hand || p.Zone == api.Row || p.Zone == api.Back
		if p.Def == -1 || p.Up && p.Zone != api.Deck && p.Zone != api.Hand || p.Has == who && isHeld {
			continue
		}
		def := l.IntN(len(d.Table.Kinds))
		for isUnit := def < rain; p.Zone == api.Row && !isUnit || p.Zone == api.Back && isUnit; isUnit = def < rain {
			def = l.IntN(len(d.Table.Kinds))
		}
		k := d.Table.Kinds[def]
		p.Def, p.Attack, p.Guard = def, k.Attack, k.Guard
		d.Table.Pieces[id] = p
	}
	return d
}

// note counts what was told.
func note(seen map[string]int, texts []string) {
	for _, s := range texts {
		words := strings.Split(s, " ")
		seen[words[0]]++
		for i, word := range words {
			switch word {
			case "for", "at", "direct":
				seen[words[0]+" "+word]++
			case "my", "their":
				seen[word+" "+words[i+1]]++
			}
		}
	}
}

// P21.1 to P21.3, P0.5, P0.6: duels by lot: all that may be said, read word by word; what was said leads there from the beginning; what is hidden is not told.
func TestDuelsByLot(t *testing.T) {
	lot := lots{rand.New(rand.NewPCG(21, 1))}
	seen, kinds := map[string]int{}, pool(t)
	for i := range 60 {
		first := begun(t, kinds, lot.deck(len(kinds)), lot.deck(len(kinds)))
		d, said := first, []string(nil)
		for range 400 {
			if d.Stage == api.AtOver {
				nobodyAsked(t, "over", d)
				break
			}
			texts := asked(t, d)
			lot.led(t, d, texts)
			note(seen, texts)
			if d.Stage != api.AtLot || lot.yes(10) {
				found(t, d.Table)
				if x := lot.otherwise(d, duel.Ask(d).Who); !slices.Equal(move.All(x), texts) {
					t.Fatalf("what is hidden is told: %q, not %q", move.All(x), texts)
				}
			}
			n := lot.number(duel.Ask(d).Options, i%4 == 0)
			said = append(said, texts[n])
			d = decided(t, d, n)
		}
		if again := does(t, first, said...); !duel.Same(again, d) {
			t.Fatalf("%q leads elsewhere", said)
		}
	}
	for what, least := range map[string]int{
		"pass": 1000, "battle": 300, "end": 1000, "lot": 1000, "card": 1000, "play": 1000, "summon": 1000, "set": 1000, "summon for": 300, "set for": 300,
		"lay": 1000, "turn": 1000, "pick": 1000, "drop": 200, "attack at": 300, "attack direct": 100,
		"my hand": 1000, "my row": 1000, "my back": 500, "my grave": 100, "their row": 500, "their back": 100, "their grave": 100,
	} {
		if seen[what] < least {
			t.Errorf("%s: %d", what, seen[what])
		}
	}
}
