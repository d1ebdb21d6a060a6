package trig

import "joust/api"

// group is of which triggers one is: of those that must be, or may be; of those of the one whose turn it is, or of the other one.
type group struct{ must, first bool }

// inOrder are the groups, the first one ahead.
var inOrder = [...]group{
	{must: true, first: true},
	{must: true, first: false},
	{must: false, first: true},
	{must: false, first: false},
}

// groupOf asks for a player by itself, as a table that may not be can tell that it is nobody's turn.
func groupOf(t api.Table, r api.Ready) group {
	return group{must: r.Must, first: r.Who <= 1 && r.Who == t.Player}
}

// grouped are the triggers of each group, as they stand.
func grouped(t api.Table, l []api.Ready) map[group][]api.Ready {
	groups := map[group][]api.Ready{}
	for _, r := range l {
		g := groupOf(t, r)
		groups[g] = append(groups[g], r)
	}
	return groups
}
