package duel_test

import (
	"math/rand/v2"
	"slices"
	"testing"

	"joust/api"
	"joust/board"
	"joust/duel"
)

// lots draws kinds, decks and decisions.
type lots struct{ *rand.Rand }

func (l lots) yes(of int) bool { return l.IntN(of) == 0 }

func (l lots) one(of ...uint8) uint8 { return of[l.IntN(len(of))] }

func (l lots) sel() api.Sel {
	return api.Sel{Side: l.one(api.Mine, api.Theirs, api.Any, api.Any), Zone: l.one(api.Row, api.Row, api.Row, api.Back, api.Grave)}
}

func (l lots) step(counter bool) api.Step {
	s := api.Step{Do: l.one(api.StDraw, api.StMill, api.StDamage, api.StDamage, api.StHeal, api.StDestroy, api.StDestroy, api.StBanish, api.StBounce, api.StBounce, api.StBoost, api.StRevive, api.StToken), Side: l.one(api.Mine, api.Theirs, api.Any), All: l.yes(3), Sel: l.sel()}
	switch s.Do {
	case api.StDraw, api.StMill:
		s.N = num(1 + l.IntN(2))
	default:
		s.N = num(100 * l.IntN(12))
	}
	if counter && !l.yes(3) {
		s.Do = api.StNegate
	}
	return s
}

// effect is one of a mode upon an event.
func (l lots) effect(mode, ev uint8, counter bool) api.Effect {
	e := api.Effect{Mode: mode, Ev: ev, Side: l.one(api.Mine, api.Theirs, api.Any, api.Any)}
	if mode >= api.When && l.yes(4) {
		e.Side = api.Self
	}
	if l.yes(2) {
		e.Pick, e.Sel = 1+l.IntN(2)*l.IntN(3), l.sel()
	}
	switch l.IntN(10) {
	case 0:
		e.Pay = 200
	case 1:
		e.Discard = 1
	case 2:
		e.Tribute = mode != api.Play
	case 3:
		e.Cond = []api.Expr{{Op: api.ExCount, Sel: l.sel()}}
	}
	for range 1 + l.IntN(2) {
		e.Steps = append(e.Steps, l.step(counter))
	}
	return e
}

// happening is what a trigger is upon, or a play.
func (l lots) happening() uint8 {
	return l.one(api.EvSummon, api.EvSummon, api.EvAttack, api.EvDestroy, api.EvDestroy, api.EvDamage, api.EvDamage, api.EvStandby, api.EvEnd)
}

func (l lots) unit() api.Card {
	c := api.Card{Level: 4 + l.IntN(5)/3, Attack: 100 * l.IntN(25), Guard: 100 * l.IntN(25)}
	for range l.IntN(4) {
		switch l.IntN(6) {
		case 0:
			c.Effects = append(c.Effects, l.effect(api.Act, api.EvNone, false))
		case 1, 2:
			c.Effects = append(c.Effects, l.effect(api.Swift, api.EvNone, false))
		default:
			c.Effects = append(c.Effects, l.effect(l.one(api.When, api.If, api.Must), l.happening(), false))
		}
	}
	if l.yes(10) { // what is beyond the bits of Used comes again and again
		again := upon(l.one(api.If, api.Must), api.EvDamage, api.Any, step(api.StDamage, api.Theirs, 10))
		c.Effects = append(slices.Repeat([]api.Effect{healing(api.Must, api.EvSummon, 10)}, 8), again)
	}
	return c
}

func (l lots) kinds() []api.Card {
	var kinds []api.Card
	for i := range 14 {
		switch {
		case i < 7:
			kinds = append(kinds, l.unit())
		case i < 9:
			kinds = append(kinds, card("", api.Spell, l.effect(api.Play, api.EvNone, false)))
		case i < 11:
			kinds = append(kinds, card("", l.one(api.Quick, api.Trap), l.effect(api.Play, l.one(api.EvNone, l.happening()), false)))
		case i < 13:
			kinds = append(kinds, card("", api.Counter, l.effect(api.Play, l.one(api.EvLink, api.EvTry), true)))
		default:
			kinds = append(kinds, card("", l.one(api.Trap, api.Counter+1), l.effect(api.Play, api.EvNone, true)))
		}
	}
	return kinds
}

func (l lots) decks(kinds int) [2][]int {
	var decks [2][]int
	for who := range decks {
		for range 12 + l.IntN(api.MaxDeck-11) {
			decks[who] = append(decks[who], l.IntN(kinds))
		}
		if l.yes(30) {
			decks[who] = decks[who][:1+l.IntN(6)]
		}
	}
	return decks
}

// number is an option's, by lot: a turn isn't ended, nor anything passed, as long as there is much else.
func (l lots) number(options []api.Option) int {
	n := l.IntN(len(options))
	for range 3 {
		if do := options[n].Do; do == api.OpEnd || do == api.OpPass || do == api.OpLay {
			n = l.IntN(len(options))
		}
	}
	return n
}

// sound asks for what follows of a duel that goes on.
func sound(t *testing.T, d api.Duel, decks [2][]int) {
	t.Helper()
	x := d.Table
	if !board.May(x) || len(d.Links) >= api.MaxChain || d.Rounds > api.MaxRounds || x.Turn > api.MaxTurns+1 {
		t.Fatalf("a duel that may not be: %+v", bare(d))
	}
	defs := slices.Concat(decks[0], decks[1])
	for id, p := range x.Pieces {
		switch {
		case id >= len(defs):
			if p.Def != -1 || p.Zone != api.Row && p.Zone != api.Nowhere {
				t.Fatalf("the token %d: %+v", id, p)
			}
		case p.Def != defs[id] || p.Owner != 0 && id < len(decks[0]) || p.Owner != 1 && id >= len(decks[0]):
			t.Fatalf("the card %d: %+v", id, p)
		}
		if p.Zone == api.Limbo && (!d.Trying || d.Try != id) {
			t.Fatalf("%d in Limbo: %+v", id, bare(d))
		}
	}
	if d.Trying != (d.Try >= 0) || d.Attacker < 0 && d.Target >= 0 || d.Choice.Ready != (api.Ready{}) && d.Stage != api.AtPick {
		t.Fatalf("something is left: %+v", bare(d))
	}
}

// offered asks for the options, by the second reading, and that no two are alike.
func offered(t *testing.T, d api.Duel) []api.Option {
	t.Helper()
	p := duel.Ask(d)
	who, l := options(d)
	if p.Who != who || p.Stage != d.Stage || !slices.Equal(p.Options, l) {
		t.Fatalf("Ask = %+v; not %d: %v", p, who, l)
	}
	if (len(l) == 0) != (d.Stage == api.AtOver) {
		t.Fatalf("options %v of %+v", l, bare(d))
	}
	for i, o := range l {
		if slices.Contains(l[:i], o) {
			t.Fatalf("%v twice: %v", o, l)
		}
	}
	return l
}

// decided is a duel behind an option, by both readings.
func decided(t *testing.T, d api.Duel, l []api.Option, n int) api.Duel {
	t.Helper()
	was := duel.Copy(d)
	is, e := duel.Decide(d, n)
	if want := read(d, l[n]); e != api.OK || !duel.Same(is, want) {
		t.Fatalf("Decide(%v) = %d, %+v\nnot %+v\nof %+v", l[n], e, bare(is), bare(want), bare(d))
	}
	if !duel.Same(d, was) {
		t.Fatalf("Decide(%v) changed %+v", l[n], bare(was))
	}
	return is
}

// P17.1, P17.2, P17.3, P0.1 to P0.4: duels by lot, against the second reading.
func TestDuelsByLot(t *testing.T) {
	lot := lots{rand.New(rand.NewPCG(17, 1))}
	seen := map[string]int{}
	for range 300 {
		kinds := lot.kinds()
		decks := lot.decks(len(kinds))
		d, e := duel.Begin(kinds, decks)
		if e != api.OK {
			t.Fatal(e)
		}
		for range 500 {
			sound(t, d, decks)
			l := offered(t, d)
			if d.Stage == api.AtOver {
				break
			}
			if lot.yes(20) {
				for n := range l {
					decided(t, d, l, n)
				}
				for _, n := range []int{-1, len(l), len(l) + 7} {
					if x, e := duel.Decide(d, n); e != api.ErrArg || !duel.Same(x, d) {
						t.Fatalf("Decide(%d) = %d", n, e)
					}
				}
			}
			next := decided(t, d, l, lot.number(l))
			note(seen, d, next)
			d = next
		}
	}
	for what, least := range wanted() {
		if seen[what] < least {
			t.Errorf("%s: %d", what, seen[what])
		}
	}
}

// note counts what a decision led to.
func note(seen map[string]int, d, next api.Duel) {
	names := []string{"lot", "idle", "order", "answer", "pick", "battle", "drop", "over"}
	seen[names[next.Stage]]++
	if next.Stage == api.AtOver {
		seen[[]string{"", "by life", "by deck", "by turns", "by rounds"}[next.Reason]]++
		seen[[]string{"won by 0", "won by 1", "won by nobody"}[next.Winner]]++
	}
	for what, so := range map[string]bool{
		"long chain":    len(next.Links) >= 6,
		"second round":  next.Rounds > 1,
		"negated":       d.Trying && !next.Trying && next.Table.Pieces[max(d.Try, 0)].Zone == api.Grave,
		"trying, order": next.Trying && next.Stage == api.AtOrder,
		"strike missed": next.Stage == api.AtBattle && next.Then == api.ThenStrike,
		"order to pick": next.Stage == api.AtPick && next.Ordered,
		"second phase":  next.Second && next.Stage == api.AtIdle,
		"many waits":    len(next.Waits) > 4,
		"token":         len(next.Table.Pieces) > len(d.Table.Pieces),
	} {
		if so {
			seen[what]++
		}
	}
}

func wanted() map[string]int {
	return map[string]int{
		"lot": 1000, "idle": 1000, "order": 1000, "answer": 1000, "pick": 1000, "battle": 1000, "drop": 100, "over": 100,
		"by life": 30, "by deck": 50, "by rounds": 20, "won by 0": 50, "won by 1": 50, "won by nobody": 20,
		"long chain": 100, "second round": 1000, "negated": 50, "trying, order": 5, "strike missed": 20, "order to pick": 100, "second phase": 500, "many waits": 100, "token": 100,
	}
}
