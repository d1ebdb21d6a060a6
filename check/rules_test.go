package check_test

import (
	"math/rand/v2"
	"regexp"
	"slices"
	"strings"
	"testing"

	"joust/api"
	"joust/check"
	"joust/parse"
	"joust/print"
)

// What the rules say, of texts as they are written: of a card's head, of an effect with the card's kind ahead of it, of a step.
var (
	begin    = regexp.MustCompile(`(?m)^(play|act|swift|when|if|must|aura) `)
	level    = regexp.MustCompile(`^unit \S+ ([1-9]|1[012]) `)
	upon     = regexp.MustCompile(`^(unit (when|if|must) upon (summon|attack|destroy|damage|standby|end) \w+|(unit (act|swift|aura)|\w+ play)|(quick|trap|counter) play upon (summon|attack|destroy|damage|standby|end) (mine|theirs|any)|counter play upon (try|link) (mine|theirs|any)) (needs|pays|drops|spends|picks|:)`)
	spender  = regexp.MustCompile(`^unit (play|act|swift|when|if|must) `)
	picks    = regexp.MustCompile(` picks (\d+) (\w+ (\w+) \w+) `)
	about    = regexp.MustCompile(`^(destroy|banish|bounce|revive|boost) `)
	bare     = regexp.MustCompile(`^(destroy|banish|bounce|revive|boost (\(.*\)|\d+|power|life \w+|count \w+ \w+ \w+)) $`)
	wrongSel = regexp.MustCompile(`\b(deck|hand) (unit|spell|quick|trap|counter)\b|\bself (deck|hand|back|grave|exile)\b`)
	zones    = regexp.MustCompile(`^(destroy \w+ (row|back)|(banish|bounce) \w+ (row|back|grave)|revive \w+ grave|boost .* \w+ row) \w+ $`)
	aura     = regexp.MustCompile(`^\w+ aura (upon \w+ \w+ )?(spends )?: (boost \d+ \w+ row \w+ ; )*$`)
	stopper  = regexp.MustCompile(`^counter play upon (try|link) `)
	wrongOf  = regexp.MustCompile(`^(draw|mill|damage|heal|token) self `)
)

// breaks is which rules are broken.
type breaks [10]bool

func (b *breaks) unless(rule int, kept bool) { b[rule] = b[rule] || !kept }

// reading is a second reading of the nine rules, of a card's text as it is written.
func reading(text string) breaks {
	var b breaks
	head, body, _ := strings.Cut(text, "{ \n")
	kind, _, _ := strings.Cut(head, " ")
	body = strings.TrimSuffix(body, "} \n")
	begins := begin.FindAllStringIndex(body, -1)
	b.unless(1, kind == "unit" && level.MatchString(head) || kind != "unit" && len(begins) == 1)
	for i, at := range begins {
		end := len(body)
		if i+1 < len(begins) {
			end = begins[i+1][0]
		}
		b.effect(kind, strings.ReplaceAll(kind+" "+body[at[0]:end], "\n", ""))
	}
	return b
}

func (b *breaks) effect(kind, text string) {
	head, done, _ := strings.Cut(text, ": ")
	b.unless(1, (kind == "unit") != strings.Contains(text, " play "))
	b.unless(2, upon.MatchString(text) && !strings.HasPrefix(text, "spell play upon"))
	b.unless(3, !strings.Contains(text, " spends ") || spender.MatchString(text))
	b.unless(5, !wrongSel.MatchString(text))
	b.unless(7, !strings.Contains(text, " aura ") || aura.MatchString(text))
	b.unless(9, !strings.Contains(text, " life self "))
	picked, few := "", false
	if p := picks.FindStringSubmatch(head); p != nil {
		picked, few = p[2]+" ", slices.Contains([]string{"1", "2", "3"}, p[1])
		b.unless(4, few && p[3] != "deck" && p[3] != "hand")
	}
	for step := range strings.SplitSeq(strings.TrimSuffix(done, "; "), "; ") {
		if bare.MatchString(step) {
			b.unless(4, few)
			step += picked
		}
		b.unless(6, !about.MatchString(step) || zones.MatchString(step))
		b.unless(8, step != "negate " || stopper.MatchString(text))
		b.unless(9, !wrongOf.MatchString(step))
	}
}

// broken tells the rules that are broken.
func (b breaks) broken() (rules []int) {
	for rule, is := range b {
		if is {
			rules = append(rules, rule)
		}
	}
	return rules
}

// alike are words that mostly may stand where another one of their line may.
const alike = `mine theirs any self
deck hand row back grave exile
all unit spell quick trap counter
spell quick trap counter
try summon attack destroy damage link standby end
play act swift when if must aura
destroy banish bounce revive negate
draw mill damage heal token
0 1 3 4 12 13 99999 power`

const words = alike + " unit boost upon needs pays drops spends picks life count ( ) + not : ;"

// eachOther tells every text that has one word more or less, or another one.
func eachOther(text []string, tell func([]string)) {
	for i := range text {
		for _, w := range strings.Fields(words) {
			tell(slices.Concat(text[:i], []string{w}, text[i+1:]))
			tell(slices.Insert(slices.Clone(text), i, w))
		}
		tell(slices.Delete(slices.Clone(text), i, i+1))
	}
}

// tally counts cards by how many rules they break, and those that break one by which.
type tally struct {
	kept, more int
	alone      breaks
}

// hold holds Card and Pool against the second reading, if a text is that of one card.
func (c *tally) hold(t *testing.T, text []string) {
	t.Helper()
	l, f := parse.Pool(strings.Join(text, " "))
	if f != (api.Fault{}) || len(l) != 1 {
		return
	}
	written, e := print.Pool(l)
	if e != api.OK {
		t.Fatalf("%q may not be written", text)
	}
	rules, want := reading(written).broken(), api.OK
	switch len(rules) {
	case 0:
		c.kept++
	case 1:
		c.alone[rules[0]] = true
		want = api.ErrRule
	default:
		c.more++
		want = api.ErrRule
	}
	if e := check.Card(l[0]); e != want {
		t.Errorf("Card(%q) = %v; broken are %v", written, e, rules)
	}
	wantPool(t, l, 0, want)
}

// enough wants of cards that were held that some kept all rules, some broke several, and each rule was broken alone.
func (c *tally) enough(t *testing.T, kept, more int) {
	t.Helper()
	if c.kept < kept || c.more < more || c.alone != (breaks{false, true, true, true, true, true, true, true, true, true}) {
		t.Errorf("%d cards kept the rules, %d broke several; broken alone were %v", c.kept, c.more, c.alone.broken())
	}
}

// P4.1: of a card whose text was changed by a word, whether it still keeps the rules.
func TestChangedCards(t *testing.T) {
	var c tally
	for _, card := range read(t, sound) {
		text, _ := print.Pool([]api.Card{card})
		eachOther(strings.Fields(text), func(other []string) { c.hold(t, other) })
	}
	c.enough(t, 800, 80)
}

// otherWord is one of those that are like it, or itself.
func otherWord(lot *rand.Rand, word string) string {
	lines := strings.Split(alike, "\n")
	for _, i := range lot.Perm(len(lines)) {
		if l := strings.Fields(lines[i]); slices.Contains(l, word) {
			return l[lot.IntN(len(l))]
		}
	}
	return word
}

// P4.1: and by some words.
func TestCardsChangedByLot(t *testing.T) {
	var c tally
	lot := rand.New(rand.NewPCG(4, 1))
	for _, card := range read(t, sound) {
		text, _ := print.Pool([]api.Card{card})
		was := strings.Fields(text)
		for range 5000 {
			other := slices.Clone(was)
			for range 1 + lot.IntN(6) {
				i := lot.IntN(len(other))
				other[i] = otherWord(lot, other[i])
			}
			c.hold(t, other)
		}
	}
	c.enough(t, 5000, 5000)
}

// P4.1: of an effect that was put into a card of another kind, and of two of one card.
func TestEffectsElsewhere(t *testing.T) {
	var c tally
	cards := read(t, sound)
	var effects []api.Effect
	for _, card := range cards {
		effects = append(effects, card.Effects...)
	}
	for _, card := range cards {
		for i, e := range effects {
			for mode := range uint8(api.Aura + 1) {
				for _, l := range [][]api.Effect{{e}, {e, effects[(i+1)%len(effects)]}} {
					l[0].Mode = mode
					card.Effects = l
					text, _ := print.Pool([]api.Card{card})
					c.hold(t, strings.Fields(text))
				}
			}
		}
	}
	if c.kept < 50 || c.more < 50 {
		t.Errorf("%d cards kept the rules, %d broke several", c.kept, c.more)
	}
}
