package report_test

import (
	"math/rand/v2"
	"strconv"
	"strings"

	"joust/api"
	"joust/check"
	"joust/parse"
)

// chance draws pools, decks, scripts, and what is wrong with texts.
type chance struct{ *rand.Rand }

func (l chance) yes(of int) bool { return l.IntN(of) == 0 }

// one is one of some words, which are parted by blanks.
func (l chance) one(words string) string {
	some := strings.Fields(words)
	return some[l.IntN(len(some))]
}

func (l chance) hundreds(n int) string { return strconv.Itoa(100 * l.IntN(n)) }

func (l chance) sel(zones string) string {
	return l.one("mine theirs any any") + " " + l.one(zones) + " " + l.one("all all unit unit spell trap")
}

// about is a step about what was picked in a zone (or, if that is none, about all of some cards).
func (l chance) about(picked string) string {
	where := map[string]string{"destroy": "row row back", "banish": "row back grave", "bounce": "row row back", "boost": "row", "revive": "grave"}
	may := map[string]string{"": "destroy destroy banish bounce boost revive", "row": "destroy banish bounce bounce boost", "back": "destroy bounce", "grave": "revive revive banish"}
	do := l.one(may[picked])
	step := do
	if do == "boost" {
		step += " " + l.hundreds(9)
	}
	if picked == "" || l.yes(4) {
		step += " " + l.sel(where[do])
	}
	return step + " ; "
}

func (l chance) step(picked string) string {
	side := l.one("mine theirs theirs any")
	switch l.IntN(8) {
	case 0:
		return l.one("draw mill") + " " + side + " " + strconv.Itoa(1+l.IntN(2)) + " ; "
	case 1, 2:
		return "damage " + side + " " + l.hundreds(14) + " ; "
	case 3:
		return l.one("heal token") + " " + side + " " + l.hundreds(12) + " ; "
	case 4:
		return "damage theirs ( * 100 count " + l.sel("row grave hand") + " ) ; "
	}
	return l.about(picked)
}

// effect is one that begins with its mode, and what it is upon.
func (l chance) effect(head string, steps ...string) string {
	text := head
	switch l.IntN(8) {
	case 0:
		text += " needs " + l.one("count") + " " + l.sel("row back grave hand")
	case 1:
		text += " pays " + l.hundreds(5)
	case 2:
		text += " drops 1"
	case 3:
		if !strings.HasPrefix(head, "play") {
			text += " spends"
		}
	}
	picked := ""
	if l.yes(2) {
		picked = l.one("row row row grave back")
		text += " picks " + l.one("1 1 2 3") + " " + l.sel(picked)
	}
	text += " : " + strings.Join(steps, "")
	for range 1 + l.IntN(2) {
		text += l.step(picked)
	}
	return text
}

func (l chance) event() string {
	return l.one("summon summon attack destroy destroy damage standby end")
}

func (l chance) unit(name string) string {
	text := "unit " + name + " " + l.one("1 2 3 4 4 4 5 7") + " " + l.hundreds(25) + " " + l.hundreds(25) + " { "
	for range l.IntN(4) {
		switch l.IntN(7) {
		case 0:
			text += "aura : boost " + l.hundreds(6) + " " + l.sel("row") + " ; "
		case 1, 2:
			text += l.effect(l.one("act swift swift"))
		default:
			text += l.effect(l.one("when if must") + " upon " + l.event() + " " + l.one("mine theirs any any self"))
		}
	}
	return text + "} "
}

// other is a card that is no unit.
func (l chance) other(name string) string {
	kind := l.one("spell spell quick trap counter counter")
	head := "play"
	var steps []string
	switch {
	case kind == "counter":
		head += " upon " + l.one("try link") + " " + l.one("theirs theirs any")
		steps = append(steps, "negate ; ")
	case kind != "spell" && l.yes(2):
		head += " upon " + l.event() + " " + l.one("theirs any")
	}
	return kind + " " + name + " { " + l.effect(head, steps...) + "} "
}

// card is one that may be, by lot, of that name.
func (l chance) card(name string) string {
	for {
		text := l.unit(name)
		if l.yes(2) {
			text = l.other(name)
		}
		kinds, fault := parse.Pool(text)
		if _, e := check.Pool(kinds); fault.E == api.OK && e == api.OK {
			return text
		}
	}
}

// pool is cards of the names k0, k1 and so on.
func (l chance) pool(n int) string {
	return ofCards(n, func(i int) string { return l.card("k" + strconv.Itoa(i)) })
}

// decks are two of such a pool.
func (l chance) decks(n int) string {
	var text string
	for range 2 {
		text += "deck { "
		left, size := api.MaxDeck, 0
		for _, kind := range l.Perm(n) {
			if left == 0 || size > 8 && l.yes(n) {
				break
			}
			copies := 1 + l.IntN(min(api.MaxCopies, left))
			text += strconv.Itoa(copies) + " k" + strconv.Itoa(kind) + " "
			left, size = left-copies, size+copies
		}
		text += "} "
	}
	return text
}

// spoiled is a text in which a word is another one, is missing, stands twice, or has something else behind it.
func (l chance) spoiled(text string) string {
	words := strings.SplitAfter(text, " ")
	i, k := l.IntN(len(words)), l.IntN(len(words))
	switch l.IntN(6) {
	case 0:
		words[i] = words[k]
	case 1:
		words[i] = ""
	case 2:
		words[i] += words[i]
	case 3:
		words[i] = l.one("0 4 13 007 100000 k1 k99 play must all self deck { } ( ) ; : 3x a- % é \xff # aaaaaaaaaaaaaaaaaaaaaaaaa") + " "
	case 4:
		words[i] += "\n"
	default:
		words[i], words[k] = words[k], words[i]
	}
	return strings.Join(words, "")
}

// bent is a text that can be read still, but tells what may not be.
func (l chance) bent(text string) string {
	is, was := l.one("k5 k6 self deck 0 13 play act trap grave self"), l.one("k1 k2 any row 1 4 act swift spell")
	return strings.ReplaceAll(text, " "+was+" ", " "+is+" ")
}

// changed is a text that is wrong, mostly.
func (l chance) changed(text string) string {
	if l.yes(2) {
		return l.bent(text)
	}
	for range 1 + l.IntN(2) {
		text = l.spoiled(text)
	}
	return text
}

// few is decks of which the first one has few kinds of cards, and may have too few cards.
func (l chance) few(text string) string {
	first, second, _ := strings.Cut(text, "}")
	words := strings.Fields(first)
	return strings.Join(words[:min(len(words), 4+2*l.IntN(3))], " ") + " }" + second
}
