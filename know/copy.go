package know

import (
	"joust/api"
	"joust/board"
)

// copied is a duel of its own memory; layer 17, which copies duels, is not one that this layer calls.
func copied(d api.Duel) api.Duel {
	d.Table = board.Copy(d.Table)
	d.Links = fresh(d.Links)
	for i := range d.Links {
		d.Links[i].Picks = fresh(d.Links[i].Picks)
	}
	d.Recent, d.Waits, d.Dies, d.Choice.Picks = fresh(d.Recent), fresh(d.Waits), fresh(d.Dies), fresh(d.Choice.Picks)
	return d
}

// fresh is a list of its own, with the same things in it.
func fresh[T any](l []T) []T { return append([]T(nil), l...) }
