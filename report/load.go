package report

import (
	"joust/api"
	"joust/check"
	"joust/decks"
	"joust/duel"
	"joust/parse"
)

// What is wrong is told by the text that it stands in.
const (
	ofPool  = "pool"
	ofDecks = "decks"
)

// readPool is the kinds that a text tells, or what is wrong with it.
func readPool(text string) ([]api.Card, string) {
	kinds, fault := parse.Pool(text)
	if fault.E != api.OK {
		return nil, faulty(ofPool, fault)
	}
	if place, e := check.Pool(kinds); e != api.OK {
		return nil, line(ofPool, number(int(e)), kinds[place].Name)
	}
	return kinds, ""
}

// begin is a duel of the decks that a text tells, or what is wrong with it.
func begin(kinds []api.Card, text string) (api.Duel, string) {
	both, fault := decks.Read(text, kinds)
	if fault.E != api.OK {
		return api.Duel{}, faulty(ofDecks, fault)
	}
	d, e := duel.Begin(kinds, both)
	if e != api.OK {
		return api.Duel{}, line(ofDecks, number(int(e)))
	}
	return d, ""
}
