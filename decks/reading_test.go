package decks_test

import (
	"math/rand/v2"
	"regexp"
	"slices"
	"strconv"
	"strings"
	"testing"

	"joust/api"
	"joust/decks"
	"joust/scan"
)

const whole = `d{(?:n[dw])*}`

// begins is how a text may begin, a letter a token: as much of it as there is.
var begins = longest(`^(?:(?:` + whole + `)?(?:d(?:{(?:n[dw])*n?)?)?|` + whole + whole + `e?)`)

func longest(form string) *regexp.Regexp {
	r := regexp.MustCompile(form)
	r.Longest()
	return r
}

func letter(t api.Token) string {
	switch {
	case t.Kind == api.TokEnd:
		return "e"
	case t.Kind == api.TokNumber:
		return "n"
	case t.Text == "deck":
		return "d"
	case t.Kind == api.TokWord:
		return "w"
	case t.Text == "{" || t.Text == "}":
		return t.Text
	}
	return "x"
}

// reading is a second reading of the chapter: of each token whether it is a fault, told by those ahead of it.
func reading(text string, kinds []api.Card) (both [2][]int, fault api.Fault) {
	tokens, fault := scan.Tokens(text)
	if fault != (api.Fault{}) {
		return both, fault
	}
	letters := ""
	for _, t := range tokens {
		letters += letter(t)
	}
	right := len(begins.FindString(letters))
	for i, t := range tokens {
		e := api.ErrWord
		if i < right {
			e = faultOf(letters, tokens[:i+1], kinds)
		}
		if e != api.OK {
			return [2][]int{}, api.Fault{E: e, At: t.At}
		}
		if i > 0 && letters[i-1] == 'n' {
			which := strings.Count(letters[:i], "}")
			n, _ := strconv.Atoi(tokens[i-1].Text)
			both[which] = append(both[which], slices.Repeat([]int{placeOf(t.Text, kinds)}, n)...)
		}
	}
	return both, api.Fault{}
}

func placeOf(name string, kinds []api.Card) int {
	return slices.IndexFunc(kinds, func(c api.Card) bool { return c.Name == name })
}

// faultOf is the fault of the last one of tokens, each of which stands where it may.
func faultOf(letters string, tokens []api.Token, kinds []api.Card) api.Errno {
	i := len(tokens) - 1
	begin := strings.LastIndex(letters[:i], "{") + 1
	switch {
	case letters[i] == 'n' && !slices.Contains([]string{"1", "2", "3"}, tokens[i].Text):
		return api.ErrLimit
	case letters[i] == '}':
		cards := 0
		for k := begin; k < i; k += 2 {
			n, _ := strconv.Atoi(tokens[k].Text)
			cards += n
		}
		if cards < 5 || cards > 40 {
			return api.ErrRule
		}
	case i > 0 && letters[i-1] == 'n':
		if placeOf(tokens[i].Text, kinds) < 0 {
			return api.ErrNone
		}
		for k := begin + 1; k < i; k += 2 {
			if tokens[k].Text == tokens[i].Text {
				return api.ErrTwice
			}
		}
	}
	return api.OK
}

// tally counts what texts came to, by the error's number.
type tally [api.ErrState + 1]int

func (c *tally) hold(t *testing.T, text string, kinds []api.Card) {
	t.Helper()
	want, fault := reading(text, kinds)
	c[fault.E]++
	if got, f := decks.Read(text, kinds); !same(got, want) || f != fault {
		t.Errorf("Read(%q) = %v, %v; not %v, %v", text, got, f, want, fault)
	}
}

func (c *tally) enough(t *testing.T, least int, errors ...api.Errno) {
	t.Helper()
	for _, e := range errors {
		if c[e] < least {
			t.Errorf("%v came %d times", e, c[e])
		}
	}
}

func someKinds() []api.Card { return named("ogre", "rain", "é-1", "ogre", "deck", "pit") }

var sound = []string{
	"deck { 3 ogre 2 rain } deck { 1 deck 3 é-1 1 pit }",
	"deck { 1 ogre 1 rain 1 é-1 1 deck 1 pit }\ndeck { 3 ogre 3 rain 3 é-1 3 deck 3 pit } # all of them",
	"deck\n{\n2 rain # two\n\t3 deck }\ndeck { 3 deck 2 rain }",
}

var pieces = []string{"deck", "{", "}", "0", "1", "2", "3", "4", "40", "99999", "ogre", "rain", "é-1", "pit", "what", ";", "-", "(", "\n", "#", "#\n", "!", "007"}

// P5.1: texts with a token more, one less, or another one, and cut ones.
func TestChangedTexts(t *testing.T) {
	var c tally
	for _, text := range sound {
		c.hold(t, text, someKinds())
		words := regexp.MustCompile(`\s+|\S+`).FindAllString(text, -1)
		for i := range words {
			c.hold(t, strings.Join(words[:i], ""), someKinds())
			c.hold(t, strings.Join(slices.Delete(slices.Clone(words), i, i+1), ""), someKinds())
			for _, p := range pieces {
				c.hold(t, strings.Join(slices.Concat(words[:i], []string{p}, words[i+1:]), ""), someKinds())
				c.hold(t, strings.Join(slices.Concat(words[:i], []string{" ", p, " "}, words[i:]), ""), someKinds())
			}
		}
	}
	c.enough(t, 40, api.OK, api.ErrLimit, api.ErrRune, api.ErrWord, api.ErrTwice, api.ErrNone, api.ErrRule)
}

// byLot is a text that mostly holds decks, with some tokens that were thrown in.
func byLot(lot *rand.Rand, wrong float64) string {
	var l []string
	put := func(one string) {
		if lot.Float64() < wrong {
			one = pieces[lot.IntN(len(pieces))]
		}
		l = append(l, one)
	}
	for range 2 {
		put("deck")
		put("{")
		for _, i := range lot.Perm(20)[:lot.IntN(21)] {
			put(strconv.Itoa(1 + lot.IntN(3)))
			name := "w" + strconv.Itoa(i)
			if lot.Float64() < wrong {
				name = l[1+lot.IntN(len(l)-1)]
			}
			put(name)
		}
		put("}")
	}
	return strings.Join(l, " ")
}

// P5.1, P5.2: texts that were made by lot; what Read tells of them is written, and read as the same.
func TestTextsByLot(t *testing.T) {
	var c tally
	lot := rand.New(rand.NewPCG(5, 1))
	for i := range 20000 {
		text := byLot(lot, []float64{0, 0.02, 0.2}[i%3])
		kinds := append(numbers(19+lot.IntN(2)), someKinds()...)
		c.hold(t, text, kinds)
		if both, f := decks.Read(text, kinds); f == (api.Fault{}) {
			want := ""
			for words := range strings.Lines(text) {
				words, _, _ = strings.Cut(words, "#")
				want += words + " "
			}
			want = strings.ReplaceAll(strings.Join(strings.Fields(want), " ")+" ", "} ", "}\n")
			wantText(t, both, kinds, want)
		}
	}
	c.enough(t, 100, api.OK, api.ErrLimit, api.ErrRune, api.ErrWord, api.ErrTwice, api.ErrNone, api.ErrRule)
}

// mayBe is a second reading of which decks have a text.
func mayBe(deck []int, kinds []api.Card) bool {
	for i, place := range deck {
		if place < 0 || place >= len(kinds) || !scan.Word(kinds[place].Name) || placeOf(kinds[place].Name, kinds) != place {
			return false
		}
		first := slices.Index(deck, place)
		if i-first > 2 || slices.ContainsFunc(deck[first:i], func(p int) bool { return p != place }) {
			return false
		}
	}
	return 5 <= len(deck) && len(deck) <= 40
}

// P5.2: decks that were made by lot, right or wrong: which have a text, and that it is read as the same.
func TestDecksByLot(t *testing.T) {
	lot := rand.New(rand.NewPCG(5, 2))
	kinds := append(numbers(16), named("w3", "a b", "", "deck")...)
	oneDeck := func() []int {
		var deck []int
		for _, place := range lot.Perm(16)[:2+lot.IntN(15)] {
			deck = append(deck, slices.Repeat([]int{place}, 1+lot.IntN(3))...)
		}
		for lot.IntN(3) == 0 {
			deck[lot.IntN(len(deck))] = lot.IntN(len(kinds)+2) - 1
		}
		return deck
	}
	count := [2]int{}
	for range 20000 {
		both := [2][]int{oneDeck(), oneDeck()}
		if !mayBe(both[0], kinds) || !mayBe(both[1], kinds) {
			wantNone(t, both, kinds)
			count[0]++
			continue
		}
		count[1]++
		s, e := decks.Write(both, kinds)
		if e != api.OK {
			t.Errorf("Write(%v) = %v", both, e)
		}
		wantDecks(t, s, kinds, both[0], both[1])
	}
	if count[0] < 5000 || count[1] < 5000 {
		t.Errorf("%d decks that may be, %d that may not", count[1], count[0])
	}
}
