package record_test

import (
	"math"
	"slices"
	"testing"

	"joust/api"
	"joust/check"
	"joust/duel"
	"joust/parse"
	"joust/record"
)

const poolText = `
unit ogre 4 1800 1000 { }
unit imp 3 1000 1900 { swift picks 1 theirs row all : damage theirs 100 ; when upon destroy any : token mine 400 ; }
unit sage 2 500 500 { act picks 1 any row unit : bounce ; must upon damage any : heal mine 100 ; if upon destroy self : draw mine 1 ; }
unit seer 1 0 100 { if upon summon any : damage theirs 300 ; must upon summon any : mill theirs 1 ; }
spell rain { play drops 1 : damage theirs 1500 ; destroy theirs row all ; }
spell call { play picks 1 any grave unit : revive ; }
quick gust { play picks 2 any row all : bounce ; }
trap rush { play upon summon any : token mine 200 ; }
trap pit { play upon summon theirs picks 1 theirs row unit : destroy ; }
counter stop { play upon link theirs : negate ; }
counter bar { play upon try theirs : negate ; }
`

// The places of some of these kinds.
const (
	ogre = 0
	sage = 2
	seer = 3
	gust = 6
	bar  = 10
)

// pool is kinds that may be played.
func pool(t *testing.T) []api.Card {
	t.Helper()
	kinds, fault := parse.Pool(poolText)
	if i, e := check.Pool(kinds); fault.E != api.OK || e != api.OK {
		t.Fatalf("no pool: %v, %d: %d", fault, i, e)
	}
	return kinds
}

// begin is a duel of decks of these kinds, ahead of the lots.
func begin(t *testing.T, decks [2][]int) api.Duel {
	t.Helper()
	d, e := duel.Begin(pool(t), decks)
	if e != api.OK {
		t.Fatalf("Begin: %d", e)
	}
	return d
}

// all is a deck of one kind.
func all(kind, size int) []int { return slices.Repeat([]int{kind}, size) }

// ready is a duel behind the lots: each has the first five cards of the deck in hand, 0 is asked in the first main phase.
func ready(t *testing.T, decks [2][]int) api.Duel {
	t.Helper()
	d := begin(t, decks)
	for range d.Table.Pieces {
		d = decided(t, d, 0)
	}
	return d
}

// decided is a duel behind an option.
func decided(t *testing.T, d api.Duel, n int) api.Duel {
	t.Helper()
	d, e := duel.Decide(d, n)
	if e != api.OK {
		t.Fatalf("Decide(%d): %d", n, e)
	}
	return d
}

func option(do uint8, piece, arg int) api.Option { return api.Option{Do: do, Piece: piece, Arg: arg} }

// line is one that isn't refused.
func line(who, stage, do uint8, piece, arg int) api.Line {
	return api.Line{Who: who, Stage: stage, Option: option(do, piece, arg)}
}

// refused is one that is.
func refused(who, stage uint8) api.Line { return api.Line{Who: who, Stage: stage, Refused: true} }

// noNumber is a number that is no option's, of so many.
func noNumber(i, options int) int {
	return []int{-1, options, math.MinInt, options + 1, math.MaxInt, -options - 1, options + api.MaxKinds}[i%7]
}

// same asks for a duel and a record.
func same(t *testing.T, d, want api.Duel, l, lines []api.Line) {
	t.Helper()
	if !slices.Equal(l, lines) {
		t.Errorf("the record is\n%snot\n%s", record.Put(l), record.Put(lines))
	}
	if !duel.Same(d, want) {
		t.Errorf("the duel is %+v\nnot %+v", d, want)
	}
}

// P19.1, P19.2: the chapter's example.
func TestExample(t *testing.T) {
	d, _ := duel.Begin([]api.Card{{Name: "ogre", Level: 4, Attack: 1800}}, [2][]int{all(0, 6), all(0, 6)})
	x, l := record.Play(d, []int{0, 9, 0})
	if s := record.Put(l); s != "0 0 12 -1 0\n0 0 -\n0 0 12 -1 0\n" || x.Lots != 4 {
		t.Errorf("Play: %q, %d", s, x.Lots)
	}
}
