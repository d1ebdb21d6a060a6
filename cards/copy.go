package cards

import "joust/api"

// Copy copies cards, so that no two lists of the copy share any memory. Of what is more than a call may answer the lists below the first one stay those that were handed in: nothing is promised of it, but that each call ends.
func Copy(l []api.Card) []api.Card {
	whole := fits(l)
	l = fresh(l)
	for i := 0; whole && i < len(l); i++ {
		l[i].Effects = copyEffects(l[i].Effects)
	}
	return l
}

// Bare is of each card what kind it is, alone: all that moves of pieces ask about, which would copy the rest anew each.
func Bare(l []api.Card) []api.Card {
	bare := make([]api.Card, len(l))
	for i, c := range l {
		bare[i].Kind = c.Kind
	}
	return bare
}

func copyEffects(l []api.Effect) []api.Effect {
	l = fresh(l)
	for i := range l {
		l[i].Cond = copyExprs(l[i].Cond)
		l[i].Steps = copySteps(l[i].Steps)
	}
	return l
}

func copySteps(l []api.Step) []api.Step {
	l = fresh(l)
	for i := range l {
		l[i].N.Args = copyExprs(l[i].N.Args)
	}
	return l
}

// copyExprs doesn't call itself: what is handed in may be deeper than calls may go.
func copyExprs(l []api.Expr) []api.Expr {
	l = fresh(l)
	todo := [][]api.Expr{l}
	for len(todo) > 0 {
		last := todo[len(todo)-1]
		todo = todo[:len(todo)-1]
		for i := range last {
			last[i].Args = fresh(last[i].Args)
			if len(last[i].Args) > 0 {
				todo = append(todo, last[i].Args)
			}
		}
	}
	return l
}

// fresh is a list of its own, with the same things in it.
func fresh[T any](l []T) []T { return append([]T(nil), l...) }
