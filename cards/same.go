// Package cards copies kinds of cards, and tells whether some are the same, for the layers that keep them.
package cards

import (
	"slices"

	"joust/api"
)

// Same tells whether two lists hold the same cards, in all.
func Same(a, b []api.Card) bool {
	c := newComparer()
	return slices.EqualFunc(a, b, c.card)
}

// SameExprs tells whether two lists hold the same expressions.
func SameExprs(a, b []api.Expr) bool { return newComparer().exprs(a, b) }

// comparer holds which lists were held against each other so far: a list may stand in very many places of what is handed in, within itself too.
type comparer struct {
	metEffects met[api.Effect]
	metSteps   met[api.Step]
	metExprs   met[api.Expr]
}

func newComparer() *comparer {
	return &comparer{met[api.Effect]{}, met[api.Step]{}, met[api.Expr]{}}
}

func (c *comparer) card(a, b api.Card) bool {
	return a.Name == b.Name && a.Kind == b.Kind && a.Level == b.Level && a.Attack == b.Attack && a.Guard == b.Guard && same(c.metEffects, a.Effects, b.Effects, c.effect)
}

func (c *comparer) effect(a, b api.Effect) bool {
	return a.Mode == b.Mode && a.Ev == b.Ev && a.Side == b.Side && a.Pay == b.Pay && a.Discard == b.Discard && a.Tribute == b.Tribute && a.Pick == b.Pick && a.Sel == b.Sel && c.exprs(a.Cond, b.Cond) && same(c.metSteps, a.Steps, b.Steps, c.step)
}

func (c *comparer) step(a, b api.Step) bool {
	return a.Do == b.Do && a.Side == b.Side && a.All == b.All && a.Sel == b.Sel && sameRoot(a.N, b.N) && c.exprs(a.N.Args, b.N.Args)
}

// exprs doesn't call itself: what is handed in may be deeper than calls may go.
func (c *comparer) exprs(a, b []api.Expr) bool {
	todo := [][2][]api.Expr{{a, b}}
	for len(todo) > 0 {
		a, b := todo[len(todo)-1][0], todo[len(todo)-1][1]
		todo = todo[:len(todo)-1]
		ok := same(c.metExprs, a, b, func(x, y api.Expr) bool {
			if len(x.Args)+len(y.Args) > 0 {
				todo = append(todo, [2][]api.Expr{x.Args, y.Args})
			}
			return sameRoot(x, y)
		})
		if !ok {
			return false
		}
	}
	return true
}

func sameRoot(a, b api.Expr) bool {
	return a.Op == b.Op && a.N == b.N && a.Side == b.Side && a.Sel == b.Sel
}

// met are pairs of lists, as long as each other, by where they begin.
type met[T any] map[pair[T]]struct{}

type pair[T any] struct {
	a, b *T
	size int
}

// same tells whether two lists hold the same; those that were met before are not gone through again.
func same[T any](m met[T], a, b []T, one func(a, b T) bool) bool {
	if len(a) != len(b) || len(a) == 0 {
		return len(a) == len(b)
	}
	these := pair[T]{&a[0], &b[0], len(a)}
	if _, ok := m[these]; ok || these.a == these.b {
		return true
	}
	m[these] = struct{}{}
	return slices.EqualFunc(a, b, one)
}
