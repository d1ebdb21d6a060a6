package fight_test

import (
	"math/rand/v2"
	"slices"
	"testing"

	"joust/api"
	"joust/board"
	"joust/fight"
	"joust/might"
)

// lots draws tables.
type lots struct{ *rand.Rand }

func (l lots) number(n int) uint8 { return uint8(l.IntN(n)) }

func (l lots) yes(of int) bool { return l.IntN(of) == 0 }

// strength is one of few, so that many are alike.
func (l lots) strength() int { return []int{0, 0, 300, 500, 600, 800, 99999}[l.IntN(7)] }

// table is one on which pieces were put as they may be, most of them in Rows.
func (l lots) table(t *testing.T) api.Table {
	t.Helper()
	x := api.Table{Kinds: pool(), Turn: 1 + l.IntN(3), Player: l.number(2)}
	var free [2][]int
	for who := range free {
		free[who] = l.Perm(api.Slots)
	}
	graves := [2]int{}
	for range l.IntN(11) {
		p := row(l.number(2), 0, l.strength(), l.strength())
		p.Def, p.Up, p.Low, p.Struck = l.IntN(3)-1, !l.yes(5), l.yes(4), l.yes(6)
		if l.yes(4) {
			p.Boost = []int{-300, 200, 300, 99999}[l.IntN(4)]
		}
		if p.Def >= 0 && l.yes(6) {
			p.Zone, p.At = api.Grave, graves[p.Has]
			graves[p.Has]++
		} else if len(free[p.Has]) == 0 {
			continue
		} else {
			p.At, free[p.Has] = free[p.Has][0], free[p.Has][1:]
			p.Owner ^= l.number(4) / 3
		}
		x.Pieces = append(x.Pieces, p)
	}
	if !board.May(x) {
		t.Fatalf("no table may be so: %+v", x.Pieces)
	}
	return x
}

// answer is what Outcome answers.
type answer struct {
	harm [2]int
	dies []int
	e    api.Errno
}

// outcome is a second reading: each one's loss is what the other one has more.
func outcome(x api.Table, a, d int) answer {
	n := len(x.Pieces)
	if a < 0 || a >= n || x.Pieces[a].Zone != api.Row || !x.Pieces[a].Up || x.Pieces[a].Low {
		return answer{e: api.ErrArg}
	}
	who := x.Pieces[a].Has
	attack := might.Attack(x, a)
	var r answer
	if d == -1 {
		r.harm[who^1] = attack
		return r
	}
	if d < 0 || d >= n || x.Pieces[d].Zone != api.Row || x.Pieces[d].Has == who {
		return answer{e: api.ErrArg}
	}
	answers := might.Attack(x, d)
	if x.Pieces[d].Low {
		answers = might.Guard(x, d)
	}
	r.harm[who] = max(0, answers-attack)
	if !x.Pieces[d].Low {
		r.harm[who^1] = max(0, attack-answers)
		if answers >= attack && answers > 0 {
			r.dies = append(r.dies, a)
		}
		if attack >= answers && attack > 0 {
			r.dies = append(r.dies, d)
		}
	} else if attack > answers {
		r.dies = append(r.dies, d)
	}
	return r
}

// options is a second reading: place by place.
func options(x api.Table, who uint8) []api.Option {
	var rows [2][]int
	for at := range api.Slots {
		for id, p := range x.Pieces {
			if p.Zone == api.Row && p.At == at {
				rows[p.Has] = append(rows[p.Has], id)
			}
		}
	}
	against := rows[1-who]
	if against == nil {
		against = []int{-1}
	}
	var l []api.Option
	for _, a := range rows[who] {
		for _, d := range against {
			if p := x.Pieces[a]; p.Up && !p.Low && !p.Struck {
				l = append(l, api.Option{Do: api.OpAttack, Piece: a, Arg: d})
			}
		}
	}
	return append(l, api.Option{Do: api.OpEnd, Piece: -1, Arg: -1})
}

// P15.1: both calls, by lot, against the second reading.
func TestLots(t *testing.T) {
	lot := lots{rand.New(rand.NewPCG(15, 1))}
	seen := map[string]int{}
	for range 4000 {
		x := lot.table(t)
		for a := -1; a <= len(x.Pieces); a++ {
			for d := -2; d <= len(x.Pieces); d++ {
				want := outcome(x, a, d)
				harm, dies, e := fight.Outcome(x, a, d)
				if harm != want.harm || !slices.Equal(dies, want.dies) || e != want.e {
					t.Fatalf("Outcome(%d, %d) = %v, %v, %v; not %+v, of %+v", a, d, harm, dies, e, want, x.Pieces)
				}
				seen[[]string{"none dies", "one dies", "both die"}[len(dies)]]++
				if harm[0] > 0 {
					seen["harm to 0"]++
				}
				if harm[1] > 0 {
					seen["harm to 1"]++
				}
			}
		}
		for who := range uint8(2) {
			want := options(x, who)
			if l := fight.Attacks(x, who); !slices.Equal(l, want) {
				t.Fatalf("Attacks of %d = %v; not %v, of %+v", who, l, want, x.Pieces)
			}
			if len(want) > 6 {
				seen["many attacks"]++
			}
		}
	}
	for _, what := range []string{"none dies", "one dies", "both die", "harm to 0", "harm to 1", "many attacks"} {
		if seen[what] < 1000 {
			t.Errorf("%s: %d", what, seen[what])
		}
	}
}
