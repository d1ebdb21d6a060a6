package decks_test

import (
	"math"
	"reflect"
	"slices"
	"strconv"
	"strings"
	"testing"

	"joust/api"
	"joust/decks"
)

// named makes kinds that have nothing but names.
func named(names ...string) []api.Card {
	var l []api.Card
	for _, name := range names {
		l = append(l, api.Card{Name: name})
	}
	return l
}

// same tells whether decks hold the same places.
func same(a, b [2][]int) bool { return slices.Equal(a[0], b[0]) && slices.Equal(a[1], b[1]) }

func wantDecks(t *testing.T, text string, kinds []api.Card, first, second []int) {
	t.Helper()
	want := [2][]int{first, second}
	if got, f := decks.Read(text, kinds); !same(got, want) || f != (api.Fault{}) {
		t.Errorf("Read(%.200q) = %v, %v; not %v", text, got, f, want)
	}
}

func wantFault(t *testing.T, text string, kinds []api.Card, e api.Errno, line, col int) {
	t.Helper()
	want := api.Fault{E: e, At: api.Spot{Line: line, Col: col}}
	if got, f := decks.Read(text, kinds); got[0] != nil || got[1] != nil || f != want {
		t.Errorf("Read(%.200q) = %v, %v; not %v", text, got, f, want)
	}
}

func wantText(t *testing.T, both [2][]int, kinds []api.Card, want string) {
	t.Helper()
	if s, e := decks.Write(both, kinds); s != want || e != api.OK {
		t.Errorf("Write(%v) = %q, %v; not %q", both, s, e, want)
	}
	wantDecks(t, want, kinds, both[0], both[1])
}

func wantNone(t *testing.T, both [2][]int, kinds []api.Card) {
	t.Helper()
	if s, e := decks.Write(both, kinds); s != "" || e != api.ErrArg {
		t.Errorf("Write(%.200v) = %q, %v", both, s, e)
	}
}

// P5.1: the chapter's examples.
func TestExamples(t *testing.T) {
	kinds := named("ogre", "rain")
	wantDecks(t, "deck { 3 ogre 2 rain } deck { 2 rain 3 ogre }", kinds, []int{0, 0, 0, 1, 1}, []int{1, 1, 0, 0, 0})
	wantFault(t, "deck { 4 ogre }", kinds, api.ErrLimit, 1, 8)
	wantFault(t, "deck { 1 ogre 1 ogre }", kinds, api.ErrTwice, 1, 17)
	wantFault(t, "deck { 3 ogre }", kinds, api.ErrRule, 1, 15)
}

// P5.1: names in any order, with remarks and without blanks, of kinds of which some have one name.
func TestDecksAsTold(t *testing.T) {
	kinds := named("", "deck", "é-1", "ogre", "é-1", "deck", "a b", "Ogre", "ogre")
	wantDecks(t, "deck{3 deck 2 é-1}deck{1 Ogre 1 ogre 3 é-1}", kinds, []int{1, 1, 1, 2, 2}, []int{7, 3, 2, 2, 2})
	wantDecks(t, "# two\n\tdeck # one of them\r\n{\n2 ogre # not 3\n3\ndeck }\ndeck { 2 ogre 3 deck } #", kinds, []int{3, 3, 1, 1, 1}, []int{3, 3, 1, 1, 1})
	other := slices.Repeat([]api.Card{{Name: "more"}}, 300)
	wantDecks(t, "deck { 3 more 2 last } deck { 2 last 3 more }", append(other, named("last")...), []int{0, 0, 0, 300, 300}, []int{300, 300, 0, 0, 0})
	units := []api.Card{{Name: "ogre", Kind: api.Trap, Level: -4}, {Name: "ogre", Kind: api.Unit}, {Name: "rain", Kind: 99}}
	wantDecks(t, "deck { 3 ogre 2 rain } deck { 3 rain 2 ogre }", units, []int{0, 0, 0, 2, 2}, []int{2, 2, 2, 0, 0})
}

const full = "deck { 3 ogre 2 rain }\n"

// P5.1: each token that may not stand there, at its spot, in either deck.
func TestWrongTokens(t *testing.T) {
	kinds := named("ogre", "rain", "é-1", "deck")
	for text, col := range map[string]int{
		"": 1, " # none": 8, "deck": 5, "deck {": 7, "deck { 3": 9, "deck { 3 ogre": 14, "deck { 3 ogre 2": 16, "deck { 3 ogre 2 rain": 21,
		"deck 3 ogre": 6, "deck }": 6, "deck deck {": 6, "deck ( 3 ogre": 6,
		"Deck {": 1, "ogre": 1, "{": 1, "3": 1, "}": 1,
		"deck { ogre 3 }": 8, "deck { ogre }": 8, "deck { { 3 ogre": 8, "deck { deck": 8, "deck { -3 ogre": 8, "deck { + 3 ogre": 8,
		"deck { 3 3 ogre": 10, "deck { 3 }": 10, "deck { 3 - 1 ogre": 10, "deck { 3 * ogre": 10, "deck { 3 { ogre": 10,
		"deck { 3 ogre rain": 15, "deck { 3 ogre ; 2 rain": 15, "deck { 3 ogre { 2 rain": 15, "deck { 3 ogre )": 15, "deck { 3 ogre-": 14, "deck { 3 é-1-- 2 rain": 13,
	} {
		wantFault(t, text, kinds, api.ErrWord, 1, col)
		wantFault(t, full+text, kinds, api.ErrWord, 2, col)
	}
	wantFault(t, full, kinds, api.ErrWord, 2, 1)
	for text, col := range map[string]int{"x": 1, "}": 1, ";": 1, "3": 1, full: 1, "\tdeck": 2} {
		wantFault(t, full+full+text, kinds, api.ErrWord, 3, col)
	}
	wantDecks(t, full+full+"# é\r", kinds, []int{0, 0, 0, 1, 1}, []int{0, 0, 0, 1, 1})
}

// P5.1: of each kind 1 to MaxCopies, of a kind that there is, once in a deck; each fault at its own token.
func TestWrongCards(t *testing.T) {
	kinds := named("ogre", "rain", "é", "", "a b", "ogre", "x-")
	for text, want := range map[string]struct {
		e   api.Errno
		col int
	}{
		"deck { 0 ogre": {api.ErrLimit, 8}, "deck { 4 ogre": {api.ErrLimit, 8}, "deck { 99999 ogre": {api.ErrLimit, 8}, "deck { 3 ogre 0 rain": {api.ErrLimit, 15}, "deck { 3 ogre 4 ogre": {api.ErrLimit, 15},
		"deck { 4 what": {api.ErrLimit, 8}, "deck { 0 }": {api.ErrLimit, 8}, "deck { 0": {api.ErrLimit, 8}, "deck { 4 4": {api.ErrLimit, 8},
		"deck { 3 what": {api.ErrNone, 10}, "deck { 3 Ogre": {api.ErrNone, 10}, "deck { 3 ogres": {api.ErrNone, 10}, "deck { 3 ogr": {api.ErrNone, 10}, "deck { 3 a b": {api.ErrNone, 10}, "deck { 3 x-": {api.ErrNone, 10}, "deck { 1 deck }": {api.ErrNone, 10}, "deck { 1 what 1 what": {api.ErrNone, 10}, "deck { 3 e": {api.ErrNone, 10}, "deck { 3 é 1 e\u00e9": {api.ErrNone, 14},
		"deck { 1 ogre 1 ogre": {api.ErrTwice, 17}, "deck { 1 ogre 1 rain 3 ogre": {api.ErrTwice, 24}, "deck { 1 é 3 é }": {api.ErrTwice, 14}, "deck { 1 rain 1 ogre 1 ogre 1 rain": {api.ErrTwice, 24},
		"deck { }": {api.ErrRule, 8}, "deck { 3 ogre 1 rain } !": {api.ErrRune, 24}, "deck { 3 ogre 1 rain } }": {api.ErrRule, 22}, "deck { 3 ogre } deck { 9 what }": {api.ErrRule, 15},
	} {
		wantFault(t, text, kinds, want.e, 1, want.col)
		wantFault(t, full+text, kinds, want.e, 2, want.col)
	}
	for _, names := range [][]api.Card{nil, {}, named(""), named("ogres", "Ogre", " ogre", "ogre ", "ogre\x00", "og")} {
		wantFault(t, full+full, names, api.ErrNone, 1, 10)
	}
}

// P5.1: scan's fault comes first, wherever it stands.
func TestScansFault(t *testing.T) {
	kinds := named("ogre", "rain", strings.Repeat("w", api.MaxWord+1))
	for text, want := range map[string]api.Fault{
		"deck { 3 ogre 2 !":                              {E: api.ErrRune, At: api.Spot{Line: 1, Col: 17}},
		"} 9 what\n 007":                                 {E: api.ErrWord, At: api.Spot{Line: 2, Col: 2}},
		"deck { 9 what }\n3x":                            {E: api.ErrWord, At: api.Spot{Line: 2, Col: 1}},
		full + full + "# \xff":                           {E: api.ErrRune, At: api.Spot{Line: 3, Col: 3}},
		full + "deck { 100000 ogre }":                    {E: api.ErrLimit, At: api.Spot{Line: 2, Col: 8}},
		"deck { 1 " + strings.Repeat("w", 25) + " }":     {E: api.ErrLimit, At: api.Spot{Line: 1, Col: 10}},
		full + full + strings.Repeat(" ", api.MaxText):   {E: api.ErrLimit, At: api.Spot{Line: 1, Col: 1}},
		"what" + strings.Repeat("\n", api.MaxText) + "!": {E: api.ErrLimit, At: api.Spot{Line: 1, Col: 1}},
	} {
		wantFault(t, text, kinds, want.E, want.At.Line, want.At.Col)
	}
	wantDecks(t, full+full+strings.Repeat(" ", api.MaxText-2*len(full)), kinds, []int{0, 0, 0, 1, 1}, []int{0, 0, 0, 1, 1})
}

// sized is that many cards, as many as may be of a kind, in order.
func sized(cards int) []int {
	var deck []int
	for i := range cards {
		deck = append(deck, i/api.MaxCopies)
	}
	return deck
}

// textOf tells a deck of the kinds that numbers makes.
func textOf(deck []int) string {
	count := map[int]int{}
	for _, place := range deck {
		count[place]++
	}
	text := "deck { "
	for _, place := range slices.Compact(slices.Clone(deck)) {
		text += strconv.Itoa(count[place]) + " w" + strconv.Itoa(place) + " "
	}
	return text + "}\n"
}

func numbers(count int) []api.Card {
	var l []api.Card
	for i := range count {
		l = append(l, api.Card{Name: "w" + strconv.Itoa(i)})
	}
	return l
}

// P5.1, P5.2: decks of each size, in either place: MinDeck to MaxDeck cards.
func TestSizes(t *testing.T) {
	kinds := numbers(200)
	ok := sized(7)
	for size := range 2*api.MaxDeck + 1 {
		deck := sized(size)
		text := textOf(deck)
		if api.MinDeck <= size && size <= api.MaxDeck {
			wantText(t, [2][]int{deck, ok}, kinds, text+textOf(ok))
			wantText(t, [2][]int{ok, deck}, kinds, textOf(ok)+text)
			continue
		}
		wantFault(t, text+textOf(ok), kinds, api.ErrRule, 1, len(text)-1)
		wantFault(t, textOf(ok)+text, kinds, api.ErrRule, 2, len(text)-1)
		wantNone(t, [2][]int{deck, ok}, kinds)
		wantNone(t, [2][]int{ok, deck}, kinds)
	}
	var each []int
	for i := range api.MaxDeck {
		each = append(each, 199-i)
	}
	wantText(t, [2][]int{each, each}, kinds, textOf(each)+textOf(each))
}

// P5.1: what is too much is told at the deck's end, behind every other fault of that deck.
func TestLongDecks(t *testing.T) {
	kinds := numbers(9000)
	text := textOf(sized(3 * 6000))
	wantFault(t, text, kinds, api.ErrRule, 1, len(text)-1)
	for more, e := range map[string]api.Errno{"3 what": api.ErrNone, "1 w5999": api.ErrTwice, "1 w0": api.ErrTwice} {
		wantFault(t, text[:len(text)-2]+more, kinds, e, 1, len(text)+1)
	}
	wantFault(t, text[:len(text)-2]+"4 w0", kinds, api.ErrLimit, 1, len(text)-1)
	wantFault(t, text[:len(text)-2], kinds, api.ErrWord, 1, len(text)-1)
}

// P5.2: the text, token by token.
func TestTexts(t *testing.T) {
	kinds := named("ogre", "a b", "é-1", "deck", "ogre", strings.Repeat("語", api.MaxWord))
	wantText(t, [2][]int{{0, 0, 0, 2, 2}, {2, 0, 3, 5, 5, 5}}, kinds, "deck { 3 ogre 2 é-1 }\ndeck { 1 é-1 1 ogre 1 deck 3 "+kinds[5].Name+" }\n")
	long := make([]api.Card, api.MaxDeck)
	var deck []int
	text := "deck { "
	for i := range long {
		long[i].Name = strings.Repeat("語", api.MaxWord-1) + string(rune('𐐀'+i))
		deck = append(deck, i)
		text += "1 " + long[i].Name + " "
	}
	wantText(t, [2][]int{deck, deck}, long, text+"}\n"+text+"}\n")
}

// P5.2: what Read tells of no text has none.
func TestNoTexts(t *testing.T) {
	kinds := named("ogre", "rain", "ogre", "", "a b", "x-", "3", "}", "ogre 2 rain", "rain } deck { 3 ogre", strings.Repeat("w", api.MaxWord+1), "rain ", "rain\n", "rain#", "\xff", "rain\xff", "a\ufffd")
	ok := []int{0, 0, 0, 1, 1}
	wantText(t, [2][]int{ok, ok}, kinds, full+full)
	wrong := [][]int{
		nil, {}, {0}, {0, 0, 0, 1}, // too few
		{0, 0, 0, 0, 1}, {1, 0, 0, 0, 0}, {0, 0, 0, 0, 0}, {0, 0, 0, 1, 1, 1, 1}, // too many of one
		{0, 0, 1, 1, 0}, {0, 1, 0, 1, 0}, {1, 0, 0, 0, 1}, // not together
		{2, 2, 2, 1, 1}, {0, 2, 1, 1, 1}, {0, 1, 1, 1, 2}, // not the first one of that name
		{0, 0, 0, 1, -1}, {-1, 0, 0, 1, 1}, {0, 0, 0, 1, len(kinds)}, {0, 0, 1, 1, math.MaxInt}, {math.MinInt, 0, 0, 1, 1}, // no kinds
	}
	for place := 3; place < len(kinds); place++ {
		wrong = append(wrong, []int{0, 0, 0, place, place}, []int{place, place, 1, 1, 1}, []int{0, 0, place, 1, 1}, []int{0, 1, place}, []int{place})
	}
	for _, deck := range wrong {
		wantNone(t, [2][]int{ok, deck}, kinds)
		wantNone(t, [2][]int{deck, ok}, kinds)
		wantNone(t, [2][]int{deck, deck}, kinds)
	}
	for _, none := range [][]api.Card{nil, {}, named("ogre")} {
		wantNone(t, [2][]int{ok, ok}, none)
		wantNone(t, [2][]int{}, none)
	}
}

// What was handed in stays as it is, the room behind its end, too; what is answered is new, and of two decks that are alike each is its own.
func TestApart(t *testing.T) {
	room := named("ogre", "rain", "more", "rest")
	in := [2][]int{{0, 0, 0, 1, 1, 7, 7}, {0, 0, 0, 1, 1, 8, 8}}
	short := [2][]int{in[0][:5], in[1][:5]}
	wantText(t, short, room[:2], full+full)
	wantNone(t, [2][]int{in[0][:4], in[1][:6]}, room[:2])
	wantFault(t, "deck { 3 ogre 2 more }", room[:2], api.ErrNone, 1, 17)
	if !same(in, [2][]int{{0, 0, 0, 1, 1, 7, 7}, {0, 0, 0, 1, 1, 8, 8}}) || !reflect.DeepEqual(room, named("ogre", "rain", "more", "rest")) {
		t.Errorf("changed: %v, %v", in, room)
	}
	ok := []int{0, 0, 0, 1, 1}
	first, _ := decks.Read(full+full, room)
	second, _ := decks.Read(full+full, room)
	for _, deck := range first {
		deck = append(deck, 9, 9, 9)
		for i := range deck[:cap(deck)] {
			deck[:cap(deck)][i] = 9
		}
	}
	if !same(second, [2][]int{ok, ok}) {
		t.Errorf("Read = %v", second)
	}
	second[0] = append(second[0], 5, 5, 5)
	second[0][0] = 5
	if !slices.Equal(second[1], ok) {
		t.Errorf("the second deck is %v", second[1])
	}
	wantDecks(t, full+full, room, ok, ok)
}

// Each call ends, whatever is handed in, and takes no room without bound.
func TestCallsEnd(t *testing.T) {
	long := strings.Repeat("w", 1<<24)
	kinds := slices.Repeat(named(long, long+"v", "ogre", "rain"), 1<<5)
	wantDecks(t, full+full, kinds, []int{2, 2, 2, 3, 3}, []int{2, 2, 2, 3, 3})
	var deck []int
	for i := range 1 << 20 {
		deck = append(deck, i%4)
	}
	for _, one := range [][]int{deck, deck[:api.MaxDeck], make([]int, 1<<20)} {
		wantNone(t, [2][]int{one, one}, kinds)
		wantNone(t, [2][]int{{2, 2, 2, 3, 3}, one}, kinds)
	}
	wantFault(t, strings.Repeat("deck ", 13000), kinds, api.ErrWord, 1, 6)
}
