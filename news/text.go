package news

import (
	"strconv"

	"joust/api"
)

// Text tells news as a word and numbers.
func Text(n api.News) string {
	who, zone := int(n.Who), int(n.Zone)
	switch n.What {
	case api.NwGone:
		return told("gone", who, zone, n.At)
	case api.NwCame:
		return told("came", who, zone, n.At, n.Seen.Def, n.Seen.Attack)
	case api.NwSeen:
		return told("seen", who, zone, n.At, n.Seen.Def, n.Seen.Attack)
	case api.NwLife:
		return told("life", who, n.N)
	case api.NwPlayer:
		return told("player", who)
	case api.NwTurn:
		return told("turn", n.N)
	case api.NwStage:
		return told("stage", n.N)
	case api.NwAsked:
		return told("asked", who)
	}
	return ""
}

// told is a word, and numbers behind it.
func told(word string, numbers ...int) string {
	text := word
	for _, n := range numbers {
		text += " " + strconv.Itoa(n)
	}
	return text
}
