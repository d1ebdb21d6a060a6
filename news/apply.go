package news

import (
	"maps"
	"math"
	"slices"

	"joust/api"
)

// may tells whether something is news at all, of whatever view; what its kind has no word for doesn't count.
func may(n api.News) bool {
	switch n.What {
	case api.NwGone, api.NwPlayer, api.NwTurn, api.NwAsked:
		return true
	case api.NwCame, api.NwSeen:
		return slotOf(n.Seen) == place(n) && place(n).may()
	case api.NwLife:
		return n.Who <= 1
	case api.NwStage:
		return n.N >= 0 && n.N <= math.MaxUint8
	}
	return false
}

// place is the slot that news are about.
func place(n api.News) slot { return slot{n.Who, n.Zone, n.At} }

// sight is a view that news are done to; its lines are in order only when it is told.
type sight struct {
	view  api.View
	lines map[slot]api.Seen
}

// learn does one of the news, which may be.
func (s *sight) learn(n api.News) api.Errno {
	switch n.What {
	case api.NwLife:
		s.view.Life[n.Who] = n.N
	case api.NwPlayer:
		s.view.Player = n.Who
	case api.NwTurn:
		s.view.Turn = n.N
	case api.NwStage:
		s.view.Stage = uint8(n.N)
	case api.NwAsked:
		s.view.Asked = n.Who
	default:
		return s.look(n)
	}
	return api.OK
}

// look does news of a line.
func (s *sight) look(n api.News) api.Errno {
	_, there := s.lines[place(n)]
	switch {
	case n.What == api.NwCame && there:
		return api.ErrTwice
	case n.What != api.NwCame && !there:
		return api.ErrNone
	case n.What == api.NwGone:
		delete(s.lines, place(n))
	default:
		s.lines[place(n)] = n.Seen
	}
	return api.OK
}

func (s *sight) told() api.View {
	s.view.Pieces = slices.SortedFunc(maps.Values(s.lines), compare)
	s.view.Options = nil
	return s.view
}
