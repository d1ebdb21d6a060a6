package move

import (
	"slices"
	"strconv"
	"strings"

	"joust/api"
)

// none is the Arg of an option that is about one piece alone.
const none = -1

// verbs are the words with which options begin, by what they do.
var verbs = [...]string{
	api.OpPass:   "pass",
	api.OpCard:   "card",
	api.OpSummon: "summon",
	api.OpSet:    "set",
	api.OpLay:    "lay",
	api.OpPlay:   "play",
	api.OpTurn:   "turn",
	api.OpBattle: "battle",
	api.OpAttack: "attack",
	api.OpEnd:    "end",
	api.OpPick:   "pick",
	api.OpDrop:   "drop",
	api.OpLot:    "lot",
}

// format tells what stands behind an option's verb; what is untold there can't be told.
type format func(speaker, api.Option) []string

// formats are those of options, by what they do.
func formats() [api.OpLot + 1]format {
	return [api.OpLot + 1]format{
		api.OpPass:   speaker.nothing,
		api.OpCard:   speaker.effect,
		api.OpSummon: speaker.arrival,
		api.OpSet:    speaker.arrival,
		api.OpLay:    speaker.piece,
		api.OpPlay:   speaker.effect,
		api.OpTurn:   speaker.piece,
		api.OpBattle: speaker.nothing,
		api.OpAttack: speaker.attack,
		api.OpEnd:    speaker.nothing,
		api.OpPick:   speaker.piece,
		api.OpDrop:   speaker.piece,
		api.OpLot:    speaker.number,
	}
}

// text is untold of an option about a piece that can't be told.
func (s speaker) text(o api.Option) string {
	behind := formats()[o.Do]
	words := append([]string{verbs[o.Do]}, behind(s, o)...)
	if slices.Contains(words, untold) {
		return untold
	}
	return strings.Join(words, " ")
}

func (s speaker) nothing(api.Option) []string { return nil }

func (s speaker) number(o api.Option) []string { return []string{strconv.Itoa(o.Arg)} }

func (s speaker) piece(o api.Option) []string { return []string{s.where(o.Piece)} }

func (s speaker) effect(o api.Option) []string { return append(s.piece(o), s.number(o)...) }

// arrival tells what is given up for the unit, too.
func (s speaker) arrival(o api.Option) []string {
	if o.Arg == none {
		return s.piece(o)
	}
	return append(s.piece(o), "for", s.where(o.Arg))
}

func (s speaker) attack(o api.Option) []string {
	if o.Arg == none {
		return append(s.piece(o), "direct")
	}
	return append(s.piece(o), "at", s.where(o.Arg))
}
