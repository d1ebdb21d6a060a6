package decks

import (
	"strconv"
	"strings"

	"joust/api"
	"joust/scan"
)

// tellable refuses what has no text, or one without bound; whether the text is that of a deck, Read says.
func tellable(deck []int, kinds []api.Card) bool {
	if len(deck) > api.MaxDeck {
		return false
	}
	for _, place := range deck {
		if place < 0 || place >= len(kinds) || !scan.Word(kinds[place].Name) {
			return false
		}
	}
	return true
}

func write(w *strings.Builder, deck []int, kinds []api.Card) {
	w.WriteString("deck { ")
	for len(deck) > 0 {
		count := alike(deck)
		w.WriteString(strconv.Itoa(count) + " " + kinds[deck[0]].Name + " ")
		deck = deck[count:]
	}
	w.WriteString("}\n")
}

// alike counts how many from the first one on are the same.
func alike(deck []int) int {
	count := 0
	for count < len(deck) && deck[count] == deck[0] {
		count++
	}
	return count
}
