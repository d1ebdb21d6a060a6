package cards

import "joust/api"

// most is how many bytes a call may answer.
const most = 1<<31 - 1

// How many bytes one of a list takes.
const (
	cardSize   = 72
	effectSize = 96
	stepSize   = 64
	exprSize   = 48
)

// little is so few bytes that it is quicker to count them than to hold what was found.
const little = 1 << 20

// fits tells whether cards, each list told out wherever it stands, are no more than a call may answer.
func fits(l []api.Card) bool {
	quick, whole := sizer{left: little}, sizer{left: most, found: map[list]int{}}
	return quick.cards(l) || whole.cards(l)
}

// sizer holds how many bytes there may be yet; if they may be many, what the lists of expressions come to that were found so far (of one that is still a level: too much, as it stands within itself if it is found again); and the lists that are gone through, each within the one ahead of it.
type sizer struct {
	left   int
	found  map[list]int
	levels []level
}

// list is a list of expressions, by where it begins.
type list struct {
	at   *api.Expr
	size int
}

func listOf(l []api.Expr) list { return list{&l[0], len(l)} }

func (s *sizer) cards(l []api.Card) bool {
	if !s.take(len(l), cardSize) {
		return false
	}
	for _, c := range l {
		if !s.effects(c.Effects) {
			return false
		}
	}
	return true
}

func (s *sizer) effects(l []api.Effect) bool {
	if !s.take(len(l), effectSize) {
		return false
	}
	for _, e := range l {
		if !s.exprs(e.Cond) || !s.steps(e.Steps) {
			return false
		}
	}
	return true
}

func (s *sizer) steps(l []api.Step) bool {
	if !s.take(len(l), stepSize) {
		return false
	}
	for _, one := range l {
		if !s.exprs(one.N.Args) {
			return false
		}
	}
	return true
}

// level is a list of expressions, which one of them comes next, and how many bytes there might be yet when it was begun.
type level struct {
	l    []api.Expr
	next int
	left int
}

// exprs doesn't call itself: what is handed in may be deeper than calls may go.
func (s *sizer) exprs(l []api.Expr) bool {
	s.levels = s.levels[:0]
	ok := s.enter(l)
	for ok && len(s.levels) > 0 {
		last := &s.levels[len(s.levels)-1]
		if last.next < len(last.l) {
			last.next++
			ok = s.enter(last.l[last.next-1].Args)
			continue
		}
		s.note(last.l, last.left-s.left)
		s.levels = s.levels[:len(s.levels)-1]
	}
	return ok
}

// enter takes a list that was found before, or begins one more level with it.
func (s *sizer) enter(l []api.Expr) bool {
	if len(l) == 0 {
		return true
	}
	if bytes, ok := s.found[listOf(l)]; ok {
		return s.take(1, bytes)
	}
	s.note(l, most)
	s.levels = append(s.levels, level{l: l, left: s.left})
	return s.take(len(l), exprSize)
}

func (s *sizer) note(l []api.Expr, bytes int) {
	if s.found != nil {
		s.found[listOf(l)] = bytes
	}
}

// take is no of more than there may be.
func (s *sizer) take(count, size int) bool {
	if count > s.left/size {
		return false
	}
	s.left -= count * size
	return true
}
