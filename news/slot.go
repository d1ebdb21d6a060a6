package news

import (
	"cmp"

	"joust/api"
)

// slot is where a line's piece lies: no two lines of a view have the same one, so lines are looked up by it.
type slot struct {
	has  uint8
	zone uint8
	at   int
}

func slotOf(line api.Seen) slot { return slot{line.Has, line.Zone, line.At} }

// may tells whether there can be a line of that slot; each number is a place.
func (s slot) may() bool { return s.has <= 1 && s.zone <= api.Limbo }

// behind is 1 of decks, whose lines stand behind all others.
func (s slot) behind() int {
	if s.zone == api.Deck {
		return 1
	}
	return 0
}

// compare tells which of two lines comes first.
func compare(a, b api.Seen) int {
	x, y := slotOf(a), slotOf(b)
	return cmp.Or(cmp.Compare(x.behind(), y.behind()), cmp.Compare(x.has, y.has), cmp.Compare(x.zone, y.zone), cmp.Compare(x.at, y.at))
}

func bySlots(l []api.Seen) map[slot]api.Seen {
	lines := make(map[slot]api.Seen, len(l))
	for _, line := range l {
		lines[slotOf(line)] = line
	}
	return lines
}
