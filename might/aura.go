package might

import (
	"iter"

	"joust/api"
)

// auras goes over the steps of a table, which may be, that give attack as long as their unit lies there: of which piece, and the step.
func auras(t api.Table) iter.Seq2[int, api.Step] {
	return func(yield func(int, api.Step) bool) {
		for id, p := range t.Pieces {
			if p.Zone != api.Row || !p.Up || p.Def < 0 {
				continue
			}
			for s := range gifts(t.Kinds[p.Def].Effects) {
				if !yield(id, s) {
					return
				}
			}
		}
	}
}

// gifts goes over those steps of a kind's effects.
func gifts(effects []api.Effect) iter.Seq[api.Step] {
	return func(yield func(api.Step) bool) {
		for _, e := range effects {
			if e.Mode != api.Aura {
				continue
			}
			for _, s := range e.Steps {
				if isGift(s) && !yield(s) {
					return
				}
			}
		}
	}
}

// isGift leaves out what would need to be told: an aura's number is bare.
func isGift(s api.Step) bool {
	return s.Do == api.StBoost && s.All && s.N.Op == api.ExNumber
}
