package check

import (
	"slices"

	"joust/api"
)

func all[T any](l []T, is func(T) bool) bool {
	return !slices.ContainsFunc(l, func(one T) bool { return !is(one) })
}

// ofEffects makes a rule of cards of one that each effect is to keep, told of which kind the card is.
func ofEffects(rule func(kind uint8, e api.Effect) bool) func(api.Card) bool {
	return func(c api.Card) bool {
		return all(c.Effects, func(e api.Effect) bool { return rule(c.Kind, e) })
	}
}

// ofSteps makes a rule of cards of one that each step is to keep.
func ofSteps(rule func(kind uint8, e api.Effect, s api.Step) bool) func(api.Card) bool {
	return ofEffects(func(kind uint8, e api.Effect) bool {
		return all(e.Steps, func(s api.Step) bool { return rule(kind, e, s) })
	})
}

// ofExprs tells whether all expressions of a card keep a rule: what is needed, and the numbers of steps.
func ofExprs(c api.Card, rule func(api.Expr) bool) bool {
	return all(c.Effects, func(e api.Effect) bool {
		return all(e.Cond, rule) && all(e.Steps, func(s api.Step) bool { return rule(s.N) })
	})
}
