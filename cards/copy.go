package cards

import "joust/api"

// most is how many expressions are copied as if no list stood in two places. It is far more than any text tells.
const most = 1 << 20

// Copy copies cards, so that no two lists of the copy share any memory. What then would be too much, as one list stands in very many places, or within itself, keeps its shape: a list of it is copied once.
func Copy(l []api.Card) []api.Card {
	c := copier{left: most}
	copied := c.cards(l)
	if c.left < 0 {
		c = copier{made: map[list][]api.Expr{}}
		copied = c.cards(l)
	}
	return copied
}

// copier holds how many expressions may be copied yet; or, if there is no bound, what was made of each list so far.
type copier struct {
	left int
	made map[list][]api.Expr
}

// list is a list of expressions, by where it begins.
type list struct {
	at   *api.Expr
	size int
}

func (c *copier) cards(l []api.Card) []api.Card {
	l = fresh(l)
	for i := range l {
		l[i].Effects = c.effects(l[i].Effects)
	}
	return l
}

func (c *copier) effects(l []api.Effect) []api.Effect {
	l = fresh(l)
	for i := range l {
		l[i].Cond = c.exprs(l[i].Cond)
		l[i].Steps = c.steps(l[i].Steps)
	}
	return l
}

func (c *copier) steps(l []api.Step) []api.Step {
	l = fresh(l)
	for i := range l {
		l[i].N.Args = c.exprs(l[i].N.Args)
	}
	return l
}

// exprs doesn't call itself: what is handed in may be deeper than calls may go.
func (c *copier) exprs(l []api.Expr) []api.Expr {
	l, _ = c.list(l)
	todo := [][]api.Expr{l}
	for len(todo) > 0 && c.left >= 0 {
		last := todo[len(todo)-1]
		todo = todo[:len(todo)-1]
		for i := range last {
			args, made := c.list(last[i].Args)
			last[i].Args = args
			if made {
				todo = append(todo, args)
			}
		}
	}
	return l
}

// list is a copy of a list, in which the lists below it are still those of the first one, and whether it was made just now.
func (c *copier) list(l []api.Expr) ([]api.Expr, bool) {
	if len(l) == 0 {
		return nil, false
	}
	if c.made == nil {
		c.left -= len(l)
		return fresh(l), true
	}
	from := list{&l[0], len(l)}
	copied, ok := c.made[from]
	if !ok {
		copied = fresh(l)
		c.made[from] = copied
	}
	return copied, !ok
}

// fresh is a list of its own, with the same things in it.
func fresh[T any](l []T) []T { return append([]T(nil), l...) }
