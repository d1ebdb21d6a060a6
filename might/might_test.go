package might_test

import (
	"math"
	"reflect"
	"testing"

	"joust/api"
	"joust/board"
	"joust/might"
)

// The places of pool's kinds.
const (
	pawn = iota
	lord
	rain
	wind
	net
	stop
	odd
)

// pool is a unit, one with these effects, and one of each other kind, a kind of which nobody heard, too.
func pool(effects ...api.Effect) []api.Card {
	return []api.Card{
		{Name: "pawn", Attack: 500, Guard: 400},
		{Name: "lord", Attack: 1000, Guard: 900, Effects: effects},
		{Name: "rain", Kind: api.Spell},
		{Name: "wind", Kind: api.Quick},
		{Name: "net", Kind: api.Trap},
		{Name: "stop", Kind: api.Counter},
		{Name: "odd", Kind: 99},
	}
}

// gift is the step of an aura.
func gift(n int, sel api.Sel) api.Step {
	return api.Step{Do: api.StBoost, All: true, N: api.Expr{N: n}, Sel: sel}
}

func aura(steps ...api.Step) api.Effect { return api.Effect{Mode: api.Aura, Steps: steps} }

// laid is where a card goes: which kind, whose, who has it, where, Up.
type laid struct {
	def        int
	owner, has uint8
	zone       uint8
	up         bool
}

// table is these pieces, by numbers, with these kinds.
func table(t *testing.T, kinds []api.Card, l ...laid) api.Table {
	t.Helper()
	x := api.Table{Kinds: kinds, Turn: 1, Life: [2]int{api.FirstLife, api.FirstLife}}
	count := map[[2]uint8]int{}
	for _, p := range l {
		place := [2]uint8{p.has, p.zone}
		piece := api.Piece{Def: p.def, Owner: p.owner, Has: p.has, Zone: p.zone, At: count[place], Up: p.up}
		if p.def >= 0 {
			piece.Attack, piece.Guard = kinds[p.def].Attack, kinds[p.def].Guard
		}
		if p.zone != api.Nowhere {
			count[place]++
		}
		x.Pieces = append(x.Pieces, piece)
	}
	if !board.May(x) {
		t.Fatalf("no table may be so: %+v", l)
	}
	return x
}

// rows is a lord of 0, Up, a pawn of 0, face down, and a pawn of 1, Up, and one of 1 that 0 has, Up.
func rows(t *testing.T, effects ...api.Effect) api.Table {
	t.Helper()
	return table(t, pool(effects...), laid{lord, 0, 0, api.Row, true}, laid{pawn, 0, 0, api.Row, false}, laid{pawn, 1, 1, api.Row, true}, laid{pawn, 1, 0, api.Row, true})
}

func wantAttacks(t *testing.T, what string, x api.Table, want ...int) {
	t.Helper()
	for id, n := range want {
		if is := might.Attack(x, id); is != n {
			t.Errorf("%s: Attack(%d) = %d; not %d", what, id, is, n)
		}
	}
}

// P7.1: the chapter's example.
func TestExample(t *testing.T) {
	mine := api.Sel{Zone: api.Row, Kind: api.Unit + 1}
	x := table(t, pool(aura(gift(300, mine))), laid{lord, 0, 0, api.Row, true}, laid{pawn, 0, 0, api.Row, false}, laid{pawn, 1, 1, api.Row, true})
	wantAttacks(t, "the example", x, 1300, 500, 500)
	if !might.Of(x, 0, 0, api.Sel{Zone: api.Row}, 1) {
		t.Error("Of(0, 0, mine row all, 1) = no")
	}
	x.Pieces[1].Up = true
	wantAttacks(t, "the example, all Up", x, 1300, 800, 500)
}

// P7.1: its own, and its Boost, each at its edges, in each zone.
func TestOwn(t *testing.T) {
	all := api.Sel{Side: api.Any, Zone: api.Row}
	for _, zone := range []uint8{api.Deck, api.Hand, api.Row, api.Grave, api.Exile, api.Limbo} {
		x := table(t, pool(aura(gift(300, all))), laid{lord, 1, 1, api.Row, true}, laid{pawn, 0, 0, zone, true})
		gift := 0
		if zone == api.Row {
			gift = 300
		}
		for _, c := range [][3]int{
			{500, 0, 500}, {500, 70, 570}, {500, -70, 430}, {0, 0, 0}, {0, 70, 70}, {99000, 600, 99600},
			{500, -499, 1}, {99999, -99999, 0}, {99999, -99998, 1}, {99999, math.MinInt, 0}, {99998, -100000, -1}, {500, math.MinInt, -99499},
			{500, 99000, 99500}, {500, 99499, 99999}, {500, 99500, 100000}, {0, 99999, 99999}, {99999, 99999, 100000}, {99999, math.MaxInt, 100000}, {1, math.MaxInt, 100000},
		} {
			x.Pieces[1].Attack, x.Pieces[1].Boost = c[0], c[1]
			want := max(0, min(c[2]+gift, 99999))
			if n := might.Attack(x, 1); n != want {
				t.Errorf("zone %d: Attack of %d and %d = %d; not %d", zone, c[0], c[1], n, want)
			}
		}
	}
	x := table(t, pool(), laid{net, 0, 0, api.Back, false}, laid{rain, 1, 1, api.Hand, false}, laid{-1, 1, 1, api.Nowhere, false})
	for id := range x.Pieces {
		x.Pieces[id].Attack, x.Pieces[id].Boost, x.Pieces[id].Guard = 50, 6, 7+id
		if might.Attack(x, id) != 56 || might.Guard(x, id) != 7+id {
			t.Errorf("%d: Attack = %d, Guard = %d", id, might.Attack(x, id), might.Guard(x, id))
		}
	}
}

// P7.1: the guard is its own, whatever else there is.
func TestGuard(t *testing.T) {
	x := rows(t, aura(gift(300, api.Sel{Side: api.Any, Zone: api.Row})))
	for id, want := range []int{900, 400, 400, 400} {
		x.Pieces[id].Boost, x.Pieces[id].Low = 70, id > 1
		if n := might.Guard(x, id); n != want {
			t.Errorf("Guard(%d) = %d", id, n)
		}
	}
	for _, n := range []int{0, 1, 99999} {
		x.Pieces[1].Guard = n
		if might.Guard(x, 1) != n {
			t.Errorf("Guard = %d; not %d", might.Guard(x, 1), n)
		}
	}
}

// P7.1: what is no aura gives nothing: each thing that is asked of it, wrong by itself.
func TestWhatIsAnAura(t *testing.T) {
	all := api.Sel{Side: api.Any, Zone: api.Row}
	wantAttacks(t, "an aura", rows(t, aura(gift(300, all))), 1300, 800, 800, 800)
	for mode := range 256 {
		if mode != api.Aura {
			e := aura(gift(300, all))
			e.Mode = uint8(mode)
			wantAttacks(t, "another mode", rows(t, e), 1000, 500, 500, 500)
		}
		s := gift(300, all)
		if s.Do = uint8(mode); mode != api.StBoost {
			wantAttacks(t, "another step", rows(t, aura(s)), 1000, 500, 500, 500)
		}
		s = gift(300, all)
		if s.N.Op = uint8(mode); mode != api.ExNumber {
			s.N.Args = []api.Expr{{N: 3}, {N: 4}}
			wantAttacks(t, "another expression", rows(t, aura(s)), 1000, 500, 500, 500)
		}
	}
	s := gift(300, all)
	s.All = false
	wantAttacks(t, "of those that were chosen", rows(t, aura(s)), 1000, 500, 500, 500)
	odd := aura(gift(300, all))
	odd.Ev, odd.Cond, odd.Pay, odd.Pick, odd.Steps[0].Side = api.EvEnd, []api.Expr{{}}, 99999, 3, 9
	wantAttacks(t, "whatever else it tells", rows(t, odd), 1300, 800, 800, 800)
}

// P7.1: what an aura gives, at its edges; all of it together saturates.
func TestWhatAurasGive(t *testing.T) {
	all := api.Sel{Side: api.Any, Zone: api.Row}
	for n, want := range map[int]int{0: 0, 1: 1, 300: 300, 98999: 98999, 98998: 98998, 99999: 98999, 100000: 98999, math.MaxInt: 98999, -1: 0, math.MinInt: 0} {
		wantAttacks(t, "a number", rows(t, aura(gift(n, all))), 1000+want)
		wantAttacks(t, "a number twice", rows(t, aura(gift(n, all), gift(n, all))), min(1000+2*want, 99999))
	}
	x := rows(t, aura(gift(math.MaxInt, all)))
	x.Pieces[0].Boost = math.MinInt
	wantAttacks(t, "much to one of little", x, 1000, 99999)
	x.Pieces[0].Attack = 0
	wantAttacks(t, "much to one of less", x, 0, 99999)
	x = rows(t, aura(gift(math.MinInt, all), gift(20, all)), aura(), api.Effect{}, aura(gift(3, all), api.Step{}, gift(4000, api.Sel{Zone: api.Row})))
	wantAttacks(t, "several", x, 5023, 4523, 523, 4523)
	x.Pieces[0].Boost = -5000
	wantAttacks(t, "several, to one of little", x, 23)
	x = rows(t, aura(gift(99999, all), gift(99999, all)))
	wantAttacks(t, "too much", x, 99999, 99999, 99999, 99999)
	x = table(t, pool(aura(gift(300, all))), laid{lord, 0, 0, api.Row, true}, laid{lord, 1, 1, api.Row, true}, laid{lord, 1, 0, api.Row, true}, laid{lord, 0, 1, api.Row, false})
	wantAttacks(t, "of each", x, 1900, 1900, 1900, 1900)
}

// P7.1: auras of units that are Up in a Row alone, whatever else such a unit did.
func TestWhoseAura(t *testing.T) {
	all := api.Sel{Side: api.Any, Zone: api.Row}
	x := rows(t, aura(gift(300, all)))
	x.Pieces[0].Up = false
	wantAttacks(t, "face down", x, 1000, 500, 500, 500)
	for _, zone := range []uint8{api.Deck, api.Hand, api.Grave, api.Exile, api.Limbo} {
		x = table(t, pool(aura(gift(300, all))), laid{lord, 0, 0, zone, true}, laid{pawn, 0, 0, api.Row, true})
		wantAttacks(t, "elsewhere", x, 1000, 500)
	}
	x = rows(t, aura(gift(300, all)))
	x.Pieces[0].Low, x.Pieces[0].Struck, x.Pieces[0].Turned, x.Pieces[0].Used, x.Pieces[0].Since = true, true, true, 255, 7
	wantAttacks(t, "that did something", x, 1300, 800, 800, 800)
	kinds := pool()
	kinds[net].Effects = []api.Effect{aura(gift(300, all))}
	x = table(t, kinds, laid{net, 0, 0, api.Back, true}, laid{pawn, 0, 0, api.Row, true})
	wantAttacks(t, "of no unit", x, 0, 500)
	kinds[0].Effects = []api.Effect{aura(gift(300, all))}
	x = table(t, kinds, laid{-1, 0, 0, api.Row, true}, laid{lord, 1, 1, api.Row, true})
	wantAttacks(t, "of a token", x, 0, 1000)
}

// P7.1: to whom auras give: told for the one who has the unit, not for its owner, nor for the one whose turn it is.
func TestToWhom(t *testing.T) {
	unit := uint8(api.Unit + 1)
	for _, has := range []uint8{0, 1} {
		for sel, want := range map[api.Sel][]int{
			{Side: api.Mine, Zone: api.Row}:                        {1300, 800, 800, 500, 500, 300},
			{Side: api.Mine, Zone: api.Row, Kind: unit}:            {1300, 800, 500, 500, 500, 300},
			{Side: api.Theirs, Zone: api.Row}:                      {1000, 500, 500, 800, 800, 0},
			{Side: api.Theirs, Zone: api.Row, Kind: unit}:          {1000, 500, 500, 800, 500, 0},
			{Side: api.Any, Zone: api.Row}:                         {1300, 800, 800, 800, 800, 300},
			{Side: api.Any, Zone: api.Row, Kind: unit}:             {1300, 800, 500, 800, 500, 300},
			{Side: api.Self, Zone: api.Row}:                        {1300, 500, 500, 500, 500, 0},
			{Side: api.Self, Zone: api.Row, Kind: unit}:            {1300, 500, 500, 500, 500, 0},
			{Side: api.Any, Zone: api.Row, Kind: api.Spell + 1}:    {1000, 500, 500, 500, 500, 0},
			{Side: api.Any, Zone: api.Back}:                        {1000, 500, 500, 500, 500, 0},
			{Side: 4, Zone: api.Row}:                               {1000, 500, 500, 500, 500, 0},
			{Side: api.Self, Zone: api.Grave}:                      {1000, 500, 500, 500, 500, 0},
			{Side: math.MaxUint8, Zone: api.Row, Kind: unit}:       {1000, 500, 500, 500, 500, 0},
			{Side: api.Any, Zone: math.MaxUint8, Kind: unit}:       {1000, 500, 500, 500, 500, 0},
			{Side: api.Any, Zone: api.Row, Kind: math.MaxUint8}:    {1000, 500, 500, 500, 500, 0},
			{Side: api.Theirs, Zone: api.Row, Kind: api.Trap + 1}:  {1000, 500, 500, 500, 500, 0},
			{Side: api.Mine, Zone: api.Row, Kind: api.Counter + 1}: {1000, 500, 500, 500, 500, 0},
		} {
			x := table(t, pool(aura(gift(300, sel))), laid{lord, 1 - has, has, api.Row, true}, laid{pawn, 1 - has, has, api.Row, true}, laid{pawn, has, has, api.Row, false},
				laid{pawn, has, 1 - has, api.Row, true}, laid{pawn, 1 - has, 1 - has, api.Row, false}, laid{-1, 1 - has, has, api.Row, true})
			for _, x.Player = range []uint8{0, 1} {
				for id, n := range want {
					if is := might.Attack(x, id); is != n {
						t.Errorf("%+v of %d: Attack(%d) = %d; not %d", sel, has, id, is, n)
					}
				}
			}
		}
	}
}

// P7.1: of a table that may not be, of no piece.
func TestOfNothing(t *testing.T) {
	all := api.Sel{Side: api.Any, Zone: api.Row}
	x := rows(t, aura(gift(300, all)))
	for _, id := range []int{-1, 4, 5, api.MaxCards, math.MinInt, math.MaxInt} {
		if might.Attack(x, id) != 0 || might.Guard(x, id) != 0 || might.Of(x, 0, 0, all, id) || might.Of(x, 0, id, all, 0) || might.Of(x, 0, id, api.Sel{Side: api.Self, Zone: api.Row}, id) {
			t.Errorf("of no piece, %d", id)
		}
	}
	for i, spoil := range []func(x *api.Table){
		func(x *api.Table) { x.Turn = 0 },
		func(x *api.Table) { x.Life[1] = -1 },
		func(x *api.Table) { x.Player = 2 },
		func(x *api.Table) { x.Pieces[3].Has = 1; x.Pieces[3].At = 0 },
		func(x *api.Table) { x.Pieces[3].Def = odd + 1 },
		func(x *api.Table) { x.Kinds = nil },
	} {
		x := rows(t, aura(gift(300, all)))
		spoil(&x)
		for id := range x.Pieces {
			if might.Attack(x, id) != 0 || might.Guard(x, id) != 0 || might.Of(x, 0, id, all, id) {
				t.Errorf("%d: of a table that may not be, %d", i, id)
			}
		}
	}
	if might.Attack(api.Table{}, 0) != 0 || might.Guard(api.Table{}, 0) != 0 || might.Of(api.Table{}, 0, 0, api.Sel{}, 0) {
		t.Error("of no table")
	}
}

// What was handed in stays as it is.
func TestStays(t *testing.T) {
	effects := []api.Effect{aura(gift(300, api.Sel{Side: api.Any, Zone: api.Row})), aura(gift(20, api.Sel{Zone: api.Row}))}
	x := rows(t, effects...)
	for id := range x.Pieces {
		might.Attack(x, id)
		might.Guard(x, id)
		might.Of(x, 0, 0, api.Sel{Zone: api.Row}, id)
	}
	if !reflect.DeepEqual(x, rows(t, effects...)) {
		t.Errorf("%+v changed", x)
	}
}
