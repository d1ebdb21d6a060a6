package print

import "joust/api"

// What is never written as a word, an EvNone and a number's operator, has none here.

var kinds = [...]string{
	api.Unit:    "unit",
	api.Spell:   "spell",
	api.Quick:   "quick",
	api.Trap:    "trap",
	api.Counter: "counter",
}

var modes = [...]string{
	api.Play:  "play",
	api.Act:   "act",
	api.Swift: "swift",
	api.When:  "when",
	api.If:    "if",
	api.Must:  "must",
	api.Aura:  "aura",
}

var events = [...]string{
	api.EvTry:     "try",
	api.EvSummon:  "summon",
	api.EvAttack:  "attack",
	api.EvDestroy: "destroy",
	api.EvDamage:  "damage",
	api.EvLink:    "link",
	api.EvStandby: "standby",
	api.EvEnd:     "end",
}

var sides = [...]string{
	api.Mine:   "mine",
	api.Theirs: "theirs",
	api.Any:    "any",
	api.Self:   "self",
}

// Zones beyond these can't be told in a text.
var zones = [...]string{
	api.Deck:  "deck",
	api.Hand:  "hand",
	api.Row:   "row",
	api.Back:  "back",
	api.Grave: "grave",
	api.Exile: "exile",
}

var deeds = [...]string{
	api.StDraw:    "draw",
	api.StMill:    "mill",
	api.StDamage:  "damage",
	api.StHeal:    "heal",
	api.StDestroy: "destroy",
	api.StBanish:  "banish",
	api.StBounce:  "bounce",
	api.StBoost:   "boost",
	api.StRevive:  "revive",
	api.StToken:   "token",
	api.StNegate:  "negate",
}

var operators = [...]string{
	api.ExLife:   "life",
	api.ExCount:  "count",
	api.ExAttack: "power",
	api.ExAdd:    "+",
	api.ExSub:    "-",
	api.ExMul:    "*",
	api.ExLess:   "<",
	api.ExSame:   "=",
	api.ExAnd:    "and",
	api.ExOr:     "or",
	api.ExNot:    "not",
}

func (w *writer) kind(k uint8) {
	if w.has(len(kinds), k) {
		w.token(kinds[k])
	}
}

func (w *writer) mode(m uint8) {
	if w.has(len(modes), m) {
		w.token(modes[m])
	}
}

func (w *writer) event(e uint8) {
	if w.has(len(events), e) {
		w.token(events[e])
	}
}

func (w *writer) side(s uint8) {
	if w.has(len(sides), s) {
		w.token(sides[s])
	}
}

func (w *writer) zone(z uint8) {
	if w.has(len(zones), z) {
		w.token(zones[z])
	}
}

func (w *writer) deed(d uint8) {
	if w.has(len(deeds), d) {
		w.token(deeds[d])
	}
}

func (w *writer) operator(o uint8) {
	if w.has(len(operators), o) {
		w.token(operators[o])
	}
}
