package know

import (
	"iter"

	"joust/api"
)

// Classes of kinds, by what may lie where; a place is for one of them, or for either.
const (
	units = iota
	others
	either
)

func classOf(k api.Card) int {
	if k.Kind == api.Unit {
		return units
	}
	return others
}

func placeOf(zone uint8) int {
	switch zone {
	case api.Row:
		return units
	case api.Back:
		return others
	}
	return either
}

// kind is one of which some are left to be given.
type kind struct {
	def   int
	class int
	left  int
}

// stock is what is left to be given to pieces of one owner: the kinds, rising; how many there are of each class; how many pieces have nothing yet, by their places.
type stock struct {
	kinds  []kind
	left   [2]int
	places [3]int
}

// ways tells in how many ways all that is left may be given: which of the places that are for either class get units, and then how each class lies on its places.
func (s *stock) ways() uint64 {
	ways, left := choose(s.places[either], s.left[units]-s.places[units]), s.left
	for _, k := range s.kinds {
		ways = times(ways, choose(left[k.class], k.left))
		left[k.class] -= k.left
	}
	return ways
}

// chance tells in how many of all ways a piece at a place is of a kind, of a class, of which so many are left: each piece at a place for either class gets one of the class as often as the next one, and each piece that gets one gets each of them as often.
func (s *stock) chance(place, class, count int) api.Odds {
	switch {
	case count == 0 || place != either && place != class:
		return odds(0, 1)
	case place == class:
		return odds(count, s.left[class])
	}
	return odds((s.left[class]-s.places[class])*count, s.places[either]*s.left[class])
}

// move gives n of a kind to as many pieces at places of a sort; below 0 it takes them back.
func (s *stock) move(place int, k *kind, n int) {
	k.left -= n
	s.left[k.class] -= n
	s.places[place] -= n
}

// stocks are both owners'.
type stocks [2]stock

// all is all that hidden pieces are of, none of it given yet.
func all(t api.Table, ids []int) *stocks {
	var l stocks
	for owner, counts := range rest(t, ids) {
		s := &l[owner]
		for def, count := range counts {
			if count > 0 {
				class := classOf(t.Kinds[def])
				s.kinds = append(s.kinds, kind{def, class, count})
				s.left[class] += count
			}
		}
	}
	for _, id := range ids {
		p := t.Pieces[id]
		l[p.Owner].places[placeOf(p.Zone)]++
	}
	return &l
}

func (l *stocks) ways() uint64 { return times(l[0].ways(), l[1].ways()) }

func (l *stocks) give(p api.Piece, k *kind) { l[p.Owner].move(placeOf(p.Zone), k, 1) }

// choices goes over the kinds that are left and may lie where a piece is, with how many ways there are for the rest behind each (0, if it can't be given there).
func (l *stocks) choices(p api.Piece) iter.Seq2[*kind, uint64] {
	s, place := &l[p.Owner], placeOf(p.Zone)
	return func(yield func(*kind, uint64) bool) {
		for i := range s.kinds {
			k := &s.kinds[i]
			if k.left == 0 || place != either && place != k.class {
				continue
			}
			s.move(place, k, 1)
			ways := l.ways()
			s.move(place, k, -1)
			if !yield(k, ways) {
				return
			}
		}
	}
}
