package tale

import (
	"slices"

	"joust/api"
)

// Same doesn't call itself, and holds no two lists of one class against each other: what is handed in may be deeper than calls may go, and stand within itself.
func Same(a, b []api.Node) bool {
	known := classes{}
	var todo [][2][]api.Node
	begin := func(a, b []api.Node) bool {
		if len(a) == len(b) && len(a) > 0 && known.join(listOf(a), listOf(b)) {
			todo = append(todo, [2][]api.Node{a, b})
		}
		return len(a) == len(b)
	}
	alike := func(x, y api.Node) bool {
		return x.N == y.N && x.Note == y.Note && begin(x.Kids, y.Kids)
	}
	ok := begin(a, b)
	for ok && len(todo) > 0 {
		last := todo[len(todo)-1]
		todo = todo[:len(todo)-1]
		ok = slices.EqualFunc(last[0], last[1], alike)
	}
	return ok
}

// list is one of nodes, by where it begins.
type list struct {
	at   *api.Node
	size int
}

func listOf(l []api.Node) list { return list{&l[0], len(l)} }

// classes are of lists that must be the same, if what is held against each other is: each list leads to another one of its class, but for one, to which all of them lead.
type classes map[list]list

// join makes one class of those of two lists; it says no, if they were in one.
func (c classes) join(a, b list) bool {
	a, b = c.lead(a), c.lead(b)
	if a == b {
		return false
	}
	c[a] = b
	return true
}

// lead is the one to which all of the class lead. It makes the ways there shorter, or they would be as long as the class is great.
func (c classes) lead(l list) list {
	for {
		next, ok := c[l]
		if !ok {
			return l
		}
		if behind, ok := c[next]; ok {
			c[l] = behind
		}
		l = next
	}
}
