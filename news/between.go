package news

import "joust/api"

// changes are what changed of lines: first what is gone, then line by line of the second list what came, or is seen as another one.
func changes(a, b []api.Seen) []api.News {
	was, is := bySlots(a), bySlots(b)
	var l []api.News
	for _, line := range a {
		if _, still := is[slotOf(line)]; !still {
			l = append(l, api.News{What: api.NwGone, Who: line.Has, Zone: line.Zone, At: line.At})
		}
	}
	for _, line := range b {
		before, there := was[slotOf(line)]
		switch {
		case !there:
			l = append(l, seen(api.NwCame, line))
		case before != line:
			l = append(l, seen(api.NwSeen, line))
		}
	}
	return l
}

func seen(what uint8, line api.Seen) api.News {
	return api.News{What: what, Who: line.Has, Zone: line.Zone, At: line.At, Seen: line}
}

// rest is what changed beside the lines.
func rest(a, b api.View) []api.News {
	var l []api.News
	for who, life := range b.Life {
		if a.Life[who] != life {
			l = append(l, api.News{What: api.NwLife, Who: uint8(who), N: life})
		}
	}
	if a.Player != b.Player {
		l = append(l, api.News{What: api.NwPlayer, Who: b.Player})
	}
	if a.Turn != b.Turn {
		l = append(l, api.News{What: api.NwTurn, N: b.Turn})
	}
	if a.Stage != b.Stage {
		l = append(l, api.News{What: api.NwStage, N: int(b.Stage)})
	}
	if a.Asked != b.Asked {
		l = append(l, api.News{What: api.NwAsked, Who: b.Asked})
	}
	return l
}
