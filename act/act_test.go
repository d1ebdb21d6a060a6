package act_test

import (
	"math"
	"reflect"
	"slices"
	"testing"

	"joust/act"
	"joust/api"
	"joust/board"
)

// The places of pool's kinds.
const (
	pawn = iota
	lord
	rain
	net
)

// pool is a unit, one that gives 300 to its side's units, a spell and a trap.
func pool() []api.Card {
	gift := api.Step{Do: api.StBoost, All: true, N: api.Expr{N: 300}, Sel: api.Sel{Zone: api.Row, Kind: api.Unit + 1}}
	return []api.Card{
		{Name: "pawn", Attack: 500, Guard: 200},
		{Name: "lord", Attack: 1000, Effects: []api.Effect{{Mode: api.Aura, Steps: []api.Step{gift}}}},
		{Name: "rain", Kind: api.Spell},
		{Name: "net", Kind: api.Trap},
	}
}

// laid is where a card goes: which kind, whose, who has it, where, at which place, Up.
type laid struct {
	def        int
	owner, has uint8
	zone       uint8
	at         int
	up         bool
}

// table is these pieces, by numbers, in the third turn.
func table(t *testing.T, l ...laid) api.Table {
	t.Helper()
	x := api.Table{Kinds: pool(), Turn: 3, Life: [2]int{5000, 300}}
	for _, p := range l {
		piece := api.Piece{Def: p.def, Owner: p.owner, Has: p.has, Zone: p.zone, At: p.at, Up: p.up}
		if p.def >= 0 {
			piece.Attack, piece.Guard = x.Kinds[p.def].Attack, x.Kinds[p.def].Guard
		}
		x.Pieces = append(x.Pieces, piece)
	}
	if !board.May(x) {
		t.Fatalf("no table may be so: %+v", l)
	}
	return x
}

// rows is the table of might: its decks are empty.
func rows(t *testing.T) api.Table {
	t.Helper()
	return table(t, laid{lord, 0, 0, api.Row, 0, true}, laid{pawn, 0, 0, api.Row, 1, false}, laid{pawn, 1, 1, api.Row, 0, true})
}

// stacks is a table of decks alone, from the top: 2, 0, 1 of player 0; 4, 3 of player 1.
func stacks(t *testing.T) api.Table {
	t.Helper()
	return table(t, laid{pawn, 0, 0, api.Deck, 1, false}, laid{net, 0, 0, api.Deck, 2, false}, laid{rain, 0, 0, api.Deck, 0, false},
		laid{lord, 1, 1, api.Deck, 1, false}, laid{pawn, 1, 1, api.Deck, 0, false})
}

// spread is a table with something of each player in each zone: units 0 and 1 in Row of 0, 1 of 1's own, 2 and 3 in that of 1, 3 face down, tokens 4 and 5; traps and spells 6, 7 in Back; a unit, a trap, a unit 8 to 10 in the Grave of 0, 11 in that of 1; hands 12 and 13, decks 14 and 15, Exile 16 and 17, Limbo 18, Nowhere 19.
func spread(t *testing.T) api.Table {
	t.Helper()
	return table(t,
		laid{pawn, 0, 0, api.Row, 3, true}, laid{lord, 1, 0, api.Row, 1, true}, laid{pawn, 1, 1, api.Row, 2, true}, laid{pawn, 1, 1, api.Row, 0, false}, laid{-1, 0, 0, api.Row, 0, true}, laid{-1, 0, 1, api.Row, 4, true},
		laid{net, 0, 0, api.Back, 2, false}, laid{rain, 0, 1, api.Back, 4, true},
		laid{pawn, 0, 0, api.Grave, 2, true}, laid{net, 0, 0, api.Grave, 0, true}, laid{lord, 0, 0, api.Grave, 1, true}, laid{pawn, 1, 1, api.Grave, 0, true},
		laid{pawn, 0, 0, api.Hand, 0, false}, laid{pawn, 1, 1, api.Hand, 0, false}, laid{pawn, 0, 0, api.Deck, 0, false}, laid{pawn, 1, 1, api.Deck, 0, false},
		laid{pawn, 0, 0, api.Exile, 0, true}, laid{pawn, 1, 1, api.Exile, 0, true}, laid{pawn, 0, 1, api.Limbo, 0, true}, laid{-1, 1, 1, api.Nowhere, 0, false})
}

func num(n int) api.Expr { return api.Expr{N: n} }

// all is a step about all of a zone.
func all(do, zone uint8, n int) api.Step {
	return api.Step{Do: do, N: num(n), All: true, Sel: api.Sel{Side: api.Any, Zone: zone}}
}

// picking is an effect that picks some of a zone.
func picking(zone uint8) api.Effect {
	return api.Effect{Pick: api.MaxPicks, Sel: api.Sel{Side: api.Any, Zone: zone}}
}

// sides are a step's players, with who is 0 and with who is 1.
var sides = [6][2][2]bool{
	api.Mine:     {{true, false}, {false, true}},
	api.Theirs:   {{false, true}, {true, false}},
	api.Any:      {{true, true}, {true, true}},
	api.Self:     {{true, false}, {false, true}},
	api.Self + 1: {},
}

func wantIn(t *testing.T, what string, x api.Table, who, zone uint8, want ...int) {
	t.Helper()
	if l := board.In(x, who, zone); !slices.Equal(l, want) {
		t.Errorf("%s: In(%d, %d) = %v; not %v", what, who, zone, l, want)
	}
}

// wantAct holds what a step came to against a table: the pieces alone aren't held.
func wantAct(t *testing.T, what string, was, x api.Table, did, want bool, happened ...api.Event) {
	t.Helper()
	moment := was.Moment
	if want {
		moment++
	}
	events := slices.Clone(was.Events)
	for _, e := range happened {
		e.Moment = moment
		events = append(events, e)
	}
	if did != want || x.Moment != moment || !slices.Equal(x.Events, events) || !board.May(x) {
		t.Errorf("%s: did = %v, Moment = %d, Events = %v, May = %v; not %v, %d, %v", what, did, x.Moment, x.Events, board.May(x), want, moment, events)
	}
	if !want && !board.Same(was, x) {
		t.Errorf("%s: %+v; not %+v", what, x, was)
	}
	x.Pieces, x.Life, x.Lost, x.Moment, x.Events = was.Pieces, was.Life, was.Lost, was.Moment, was.Events
	if !board.Same(was, x) {
		t.Errorf("%s: %+v; not %+v", what, x, was)
	}
}

func event(ev uint8, piece int, who uint8) api.Event {
	return api.Event{Ev: ev, Piece: piece, Who: who}
}

// P10.1: the chapter's example.
func TestExample(t *testing.T) {
	was := rows(t)
	x, did := act.Do(was, 0, 0, api.Effect{}, api.Step{Do: api.StDamage, Side: api.Theirs, N: num(500)}, nil)
	wantAct(t, "damage", was, x, did, true, event(api.EvDamage, -1, 1))
	if x.Life != [2]int{5000, 0} {
		t.Errorf("Life = %v", x.Life)
	}
	x, did = act.Do(was, 0, 0, api.Effect{}, api.Step{Do: api.StDraw, N: num(1)}, nil)
	wantAct(t, "draw", was, x, did, true)
	if x.Lost != [2]bool{true, false} {
		t.Errorf("Lost = %v", x.Lost)
	}
	x, did = act.Do(was, 0, 0, api.Effect{}, all(api.StDestroy, api.Row, 0), nil)
	wantAct(t, "destroy", was, x, did, true, event(api.EvDestroy, 0, 0), event(api.EvDestroy, 1, 0), event(api.EvDestroy, 2, 1))
	wantIn(t, "destroy", x, 0, api.Grave, 0, 1)
	wantIn(t, "destroy", x, 1, api.Grave, 2)
}

// P10.1: the first pieces of the deck go to the hand, one by one; who has none is Lost, if one is still to be drawn.
func TestDraw(t *testing.T) {
	decks := [2][]int{{2, 0, 1}, {4, 3}}
	for side, players := range sides {
		for who := range uint8(2) {
			for _, n := range []int{-api.MaxLife, -1, 0, 1, 2, 3, 4, api.MaxLife, math.MaxInt} {
				was := stacks(t)
				x, did := act.Do(was, who, 0, api.Effect{}, api.Step{Do: api.StDraw, Side: uint8(side), N: num(n)}, nil)
				wantAct(t, "draw", was, x, did, n > 0 && players[who] != [2]bool{})
				for p, deck := range decks {
					drawn := 0
					if players[who][p] {
						drawn = min(max(n, 0), len(deck))
					}
					wantIn(t, "draw", x, uint8(p), api.Hand, deck[:drawn]...)
					wantIn(t, "draw", x, uint8(p), api.Deck, deck[drawn:]...)
					if lost := players[who][p] && n > len(deck); x.Lost[p] != lost {
						t.Errorf("draw %d of %d: Lost[%d] = %v", n, side, p, x.Lost[p])
					}
				}
				if x.Life != was.Life {
					t.Errorf("draw %d: Life = %v", n, x.Life)
				}
			}
		}
	}
	x, _ := act.Do(stacks(t), 0, 0, api.Effect{}, api.Step{Do: api.StDraw, N: num(1)}, nil)
	if want := (api.Piece{Def: rain, Zone: api.Hand, Since: 3}); x.Pieces[2] != want {
		t.Errorf("drawn: %+v", x.Pieces[2])
	}
}

// P10.1: Draw is a draw of n by one player.
func TestDrawOfOne(t *testing.T) {
	for who := range uint8(2) {
		for _, n := range []int{math.MinInt, -1, 0, 1, 2, 3, 4, api.MaxLife, api.MaxLife + 1, math.MaxInt} {
			was := stacks(t)
			want, wants := act.Do(was, who, 0, api.Effect{}, api.Step{Do: api.StDraw, N: num(n)}, nil)
			if x, did := act.Draw(was, who, n); did != wants || !board.Same(x, want) {
				t.Errorf("Draw(%d, %d) = %+v, %v", who, n, x, did)
			}
		}
	}
}

// P10.1: who is Lost already is not Lost newly; another one is.
func TestLost(t *testing.T) {
	was := rows(t)
	was.Lost[1] = true
	x, did := act.Draw(was, 1, 1)
	wantAct(t, "of one who lost", was, x, did, false)
	x, did = act.Do(was, 1, 0, api.Effect{}, api.Step{Do: api.StDraw, Side: api.Any, N: num(1)}, nil)
	wantAct(t, "of both", was, x, did, true)
	if x.Lost != [2]bool{true, true} {
		t.Errorf("Lost = %v", x.Lost)
	}
	was = stacks(t)
	was.Lost = [2]bool{true, true}
	x, did = act.Draw(was, 0, 9)
	wantAct(t, "of one who has cards", was, x, did, true)
	wantIn(t, "of one who has cards", x, 0, api.Hand, 2, 0, 1)
	if x.Lost != [2]bool{true, true} {
		t.Errorf("Lost = %v", x.Lost)
	}
}

// P10.1: the first pieces of the deck go to the grave, as long as there are some: nobody is Lost.
func TestMill(t *testing.T) {
	decks := [2][]int{{2, 0, 1}, {4, 3}}
	for side, players := range sides {
		for who := range uint8(2) {
			for _, n := range []int{-api.MaxLife, -1, 0, 1, 2, 3, 4, api.MaxLife, math.MaxInt} {
				was := stacks(t)
				x, did := act.Do(was, who, 0, api.Effect{}, api.Step{Do: api.StMill, Side: uint8(side), N: num(n)}, nil)
				wantAct(t, "mill", was, x, did, n > 0 && players[who] != [2]bool{})
				for p, deck := range decks {
					gone := 0
					if players[who][p] {
						gone = min(max(n, 0), len(deck))
					}
					wantIn(t, "mill", x, uint8(p), api.Grave, deck[:gone]...)
					wantIn(t, "mill", x, uint8(p), api.Deck, deck[gone:]...)
				}
				if x.Life != was.Life || x.Lost != was.Lost {
					t.Errorf("mill %d: Life = %v, Lost = %v", n, x.Life, x.Lost)
				}
			}
		}
	}
	was := rows(t)
	x, did := act.Do(was, 0, 0, api.Effect{}, api.Step{Do: api.StMill, Side: api.Any, N: num(9)}, nil)
	wantAct(t, "mill of no deck", was, x, did, false)
}

// P10.1: lives are less, or more, within their bounds; damage happens to each, in the step's order, whatever is left.
func TestLives(t *testing.T) {
	for side, players := range sides {
		for who := range uint8(2) {
			for _, n := range []int{math.MinInt, -5, 0, 1, 299, 300, 301, 5000, api.MaxLife - 300, api.MaxLife - 299, api.MaxLife, math.MaxInt} {
				for _, life := range [][2]int{{5000, 300}, {0, api.MaxLife}, {api.MaxLife, 0}} {
					was := rows(t)
					was.Life = life
					harmed, healed := life, life
					var happened []api.Event
					for _, p := range []uint8{who, 1 - who} {
						if players[who][p] && n > 0 {
							by := min(n, api.MaxLife)
							harmed[p], healed[p] = max(life[p]-by, 0), min(life[p]+by, api.MaxLife)
							happened = append(happened, event(api.EvDamage, -1, p))
						}
					}
					x, did := act.Do(was, who, 0, api.Effect{}, api.Step{Do: api.StDamage, Side: uint8(side), N: num(n)}, nil)
					wantAct(t, "damage", was, x, did, len(happened) > 0, happened...)
					y, did := act.Do(was, who, 0, api.Effect{}, api.Step{Do: api.StHeal, Side: uint8(side), N: num(n)}, nil)
					wantAct(t, "heal", was, y, did, len(happened) > 0)
					if x.Life != harmed || y.Life != healed || !slices.Equal(x.Pieces, was.Pieces) || !slices.Equal(y.Pieces, was.Pieces) {
						t.Errorf("%v by %d: %v, %v; not %v, %v", life, n, x.Life, y.Life, harmed, healed)
					}
				}
			}
		}
	}
}

// P10.1: a step's number is its expression's value, as the one who does it has it, ahead of the step.
func TestNumber(t *testing.T) {
	was := rows(t)
	count := api.Expr{Op: api.ExCount, Sel: api.Sel{Side: api.Mine, Zone: api.Row}}
	for i, c := range []struct {
		who  uint8
		id   int
		n    api.Expr
		life [2]int
	}{
		{0, 0, api.Expr{Op: api.ExAttack}, [2]int{3700, 300}},
		{0, 2, api.Expr{Op: api.ExAttack}, [2]int{4500, 300}},
		{0, 0, count, [2]int{4998, 300}},
		{1, 0, count, [2]int{5000, 299}},
		{1, 0, api.Expr{Op: api.ExLife}, [2]int{5000, 0}},
		{1, 0, api.Expr{Op: api.ExMul, Args: []api.Expr{num(99999), num(99999)}}, [2]int{5000, 0}},
		{1, 0, api.Expr{Op: api.ExSub, Args: []api.Expr{num(1), num(2)}}, [2]int{5000, 300}},
		{1, 0, api.Expr{Op: api.ExNot}, [2]int{5000, 300}},
		{1, 0, api.Expr{Op: 99, N: 5}, [2]int{5000, 300}},
	} {
		if x, _ := act.Do(was, c.who, c.id, api.Effect{}, api.Step{Do: api.StDamage, N: c.n}, nil); x.Life != c.life {
			t.Errorf("%d: Life = %v; not %v", i, x.Life, c.life)
		}
	}
	x, _ := act.Do(was, 0, 0, api.Effect{}, api.Step{Do: api.StHeal, Side: api.Any, N: api.Expr{Op: api.ExLife}}, nil)
	if x.Life != [2]int{10000, 5300} {
		t.Errorf("Life = %v: it was told anew", x.Life)
	}
}

// P10.1: a negate does nothing by itself, nor does what is no step.
func TestNothingDone(t *testing.T) {
	for _, do := range []uint8{api.StNegate, api.StNegate + 1, 99, math.MaxUint8} {
		for side := range uint8(5) {
			was := spread(t)
			s := all(do, api.Row, 500)
			s.Side = side
			x, did := act.Do(was, 0, 0, api.Effect{}, s, nil)
			wantAct(t, "nothing", was, x, did, false)
			s.All = false
			x, did = act.Do(was, 1, 0, picking(api.Row), s, []int{1, 2})
			wantAct(t, "nothing", was, x, did, false)
		}
	}
}

// P10.1: what happened stands behind what had, with the moment that is 1 more; behind the last one comes the first one.
func TestMoment(t *testing.T) {
	old := []api.Event{{Ev: api.EvTry, Moment: 7, Piece: 1}, {Ev: 99, Moment: -7, Piece: -9, Who: 9}}
	for was, want := range map[int]int{0: 1, -1: 0, 41: 42, math.MaxInt - 1: math.MaxInt, math.MaxInt: math.MinInt, math.MinInt: math.MinInt + 1} {
		x := rows(t)
		x.Moment, x.Events = was, slices.Clone(old)
		y, did := act.Do(x, 1, 0, api.Effect{}, api.Step{Do: api.StDamage, Side: api.Any, N: num(1)}, nil)
		events := append(slices.Clone(old), api.Event{Ev: api.EvDamage, Moment: want, Piece: -1, Who: 1}, api.Event{Ev: api.EvDamage, Moment: want, Piece: -1})
		if !did || y.Moment != want || !slices.Equal(y.Events, events) {
			t.Errorf("behind %d: %v, %d, %v", was, did, y.Moment, y.Events)
		}
		y, did = act.Do(x, 1, 0, api.Effect{}, api.Step{Do: api.StHeal, N: num(1)}, nil)
		if !did || y.Moment != want || !slices.Equal(y.Events, old) {
			t.Errorf("behind %d: %v, %d, %v", was, did, y.Moment, y.Events)
		}
		y, did = act.Do(x, 1, 0, api.Effect{}, api.Step{Do: api.StHeal, N: num(0)}, nil)
		wantAct(t, "nothing", x, y, did, false)
	}
}

// P10.1: of a table that may not be, of no player, of no piece: the table as it is, no.
func TestOfNothing(t *testing.T) {
	steps := []api.Step{{Do: api.StDraw, N: num(1)}, {Do: api.StMill, N: num(1)}, {Do: api.StDamage, Side: api.Any, N: num(1)}, {Do: api.StHeal, N: num(1)}, {Do: api.StToken, N: num(1)},
		all(api.StDestroy, api.Row, 0), all(api.StBanish, api.Row, 0), all(api.StBounce, api.Row, 0), all(api.StBoost, api.Row, 5), all(api.StRevive, api.Grave, 0)}
	never := func(what string, x api.Table, who uint8, id int) {
		t.Helper()
		for _, s := range steps {
			y, did := act.Do(x, who, id, picking(api.Row), s, []int{0, 1})
			if did || !reflect.DeepEqual(x, y) {
				t.Errorf("%s: Do(%d) = %+v, %v", what, s.Do, y, did)
			}
		}
	}
	spoils := map[string]func(x *api.Table){
		"no turn":       func(x *api.Table) { x.Turn = 0 },
		"a life":        func(x *api.Table) { x.Life[1] = api.MaxLife + 1 },
		"whose turn":    func(x *api.Table) { x.Player = 2 },
		"no kind":       func(x *api.Table) { x.Pieces[2].Def = net + 1 },
		"one place":     func(x *api.Table) { x.Pieces[1].At = 3 },
		"a spell there": func(x *api.Table) { x.Pieces[1].Def = rain },
		"nothing":       func(x *api.Table) { *x = api.Table{} },
	}
	for what, spoil := range spoils {
		for who := range uint8(3) {
			x := spread(t)
			spoil(&x)
			never(what, x, who, 0)
			if y, did := act.Draw(x, who, 1); did || !reflect.DeepEqual(x, y) {
				t.Errorf("%s: Draw = %+v, %v", what, y, did)
			}
		}
	}
	x := spread(t)
	for who := 2; who < 256; who++ {
		never("no player", x, uint8(who), 0)
		if y, did := act.Draw(x, uint8(who), 1); did || !reflect.DeepEqual(x, y) {
			t.Errorf("Draw(%d) = %+v, %v", who, y, did)
		}
	}
	for _, id := range []int{-1, len(x.Pieces), math.MinInt, math.MaxInt} {
		never("no piece", x, 0, id)
	}
}
