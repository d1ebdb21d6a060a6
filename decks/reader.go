package decks

import (
	"slices"
	"strconv"

	"joust/api"
)

// reader goes through tokens, of which the last one is the text's end. What can't be read stays the next one: there the fault is.
type reader struct {
	tokens []api.Token
	places map[string]int
}

// placesOf goes backward, so that of kinds of one name the first one stays.
func placesOf(kinds []api.Card) map[string]int {
	places := make(map[string]int, len(kinds))
	for place, kind := range slices.Backward(kinds) {
		places[kind.Name] = place
	}
	return places
}

func (r *reader) next() api.Token { return r.tokens[0] }

func (r *reader) pass() { r.tokens = r.tokens[1:] }

func (r *reader) skip(text string) bool {
	if r.next().Text != text {
		return false
	}
	r.pass()
	return true
}

func (r *reader) decks() (decks [2][]int, e api.Errno) {
	for i := range decks {
		if decks[i], e = r.deck(); e != api.OK {
			return decks, e
		}
	}
	if r.next().Kind != api.TokEnd {
		return decks, api.ErrWord
	}
	return decks, api.OK
}

func (r *reader) deck() ([]int, api.Errno) {
	if !r.skip("deck") || !r.skip("{") {
		return nil, api.ErrWord
	}
	var deck []int
	told := map[int]int{} // how many of the kind at each place
	for r.next().Kind == api.TokNumber {
		count, e := r.count()
		if e != api.OK {
			return nil, e
		}
		place, e := r.kind(told)
		if e != api.OK {
			return nil, e
		}
		told[place] = count
		deck = append(deck, slices.Repeat([]int{place}, count)...)
	}
	return deck, r.end(len(deck))
}

func (r *reader) count() (int, api.Errno) {
	n, err := strconv.Atoi(r.next().Text)
	if err != nil || n < 1 || n > api.MaxCopies {
		return 0, api.ErrLimit
	}
	r.pass()
	return n, api.OK
}

func (r *reader) kind(told map[int]int) (int, api.Errno) {
	t := r.next()
	if t.Kind != api.TokWord {
		return 0, api.ErrWord
	}
	place, known := r.places[t.Text]
	if !known {
		return 0, api.ErrNone
	}
	if told[place] > 0 {
		return 0, api.ErrTwice
	}
	r.pass()
	return place, api.OK
}

// end looks at the size ahead of passing the mark, where a wrong size is to be told.
func (r *reader) end(size int) api.Errno {
	if r.next().Text != "}" {
		return api.ErrWord
	}
	if size < api.MinDeck || size > api.MaxDeck {
		return api.ErrRule
	}
	r.pass()
	return api.OK
}
