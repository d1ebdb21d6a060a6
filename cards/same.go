// Package cards copies kinds of cards, and tells whether some are the same, for the layers that keep them.
package cards

import (
	"slices"

	"joust/api"
)

// Same tells whether two lists hold the same cards, in all.
func Same(a, b []api.Card) bool { return slices.EqualFunc(a, b, sameCard) }

func sameCard(a, b api.Card) bool {
	return a.Name == b.Name && a.Kind == b.Kind && a.Level == b.Level && a.Attack == b.Attack && a.Guard == b.Guard && slices.EqualFunc(a.Effects, b.Effects, sameEffect)
}

func sameEffect(a, b api.Effect) bool {
	return a.Mode == b.Mode && a.Ev == b.Ev && a.Side == b.Side && a.Pay == b.Pay && a.Discard == b.Discard && a.Tribute == b.Tribute && a.Pick == b.Pick && a.Sel == b.Sel && SameExprs(a.Cond, b.Cond) && slices.EqualFunc(a.Steps, b.Steps, sameStep)
}

func sameStep(a, b api.Step) bool {
	return a.Do == b.Do && a.Side == b.Side && a.All == b.All && a.Sel == b.Sel && SameExprs([]api.Expr{a.N}, []api.Expr{b.N})
}

// lists are two lists that are held against each other, as long as each other, by where they begin.
type lists struct {
	a, b *api.Expr
	size int
}

// SameExprs tells whether two lists hold the same expressions. It doesn't call itself, and holds no two lists against each other twice: what is handed in may be deeper than calls may go, and a list may stand within itself.
func SameExprs(a, b []api.Expr) bool {
	met := map[lists]struct{}{}
	todo := [][2][]api.Expr{{a, b}}
	for len(todo) > 0 {
		a, b := todo[len(todo)-1][0], todo[len(todo)-1][1]
		todo = todo[:len(todo)-1]
		if len(a) != len(b) {
			return false
		}
		if len(a) == 0 {
			continue
		}
		these := lists{&a[0], &b[0], len(a)}
		if _, ok := met[these]; ok {
			continue
		}
		met[these] = struct{}{}
		for i := range a {
			if !sameRoot(a[i], b[i]) {
				return false
			}
			todo = append(todo, [2][]api.Expr{a[i].Args, b[i].Args})
		}
	}
	return true
}

func sameRoot(a, b api.Expr) bool {
	return a.Op == b.Op && a.N == b.N && a.Side == b.Side && a.Sel == b.Sel
}
