package aim_test

import (
	"math"
	"reflect"
	"slices"
	"testing"

	"joust/aim"
	"joust/api"
	"joust/board"
)

// The places of pool's kinds.
const (
	pawn = iota
	lord
	rain
	net
)

// pool is a unit, one that gives 300 to its side's units, a spell and a trap.
func pool() []api.Card {
	gift := api.Step{Do: api.StBoost, All: true, N: api.Expr{N: 300}, Sel: api.Sel{Zone: api.Row, Kind: api.Unit + 1}}
	return []api.Card{
		{Name: "pawn", Attack: 500},
		{Name: "lord", Attack: 1000, Effects: []api.Effect{{Mode: api.Aura, Steps: []api.Step{gift}}}},
		{Name: "rain", Kind: api.Spell},
		{Name: "net", Kind: api.Trap},
	}
}

// laid is where a card goes: which kind, whose, who has it, where, at which place, Up.
type laid struct {
	def        int
	owner, has uint8
	zone       uint8
	at         int
	up         bool
}

// table is these pieces, by numbers.
func table(t *testing.T, l ...laid) api.Table {
	t.Helper()
	x := api.Table{Kinds: pool(), Turn: 1, Life: [2]int{300, 5000}}
	for _, p := range l {
		piece := api.Piece{Def: p.def, Owner: p.owner, Has: p.has, Zone: p.zone, At: p.at, Up: p.up}
		if p.def >= 0 {
			piece.Attack = x.Kinds[p.def].Attack
		}
		x.Pieces = append(x.Pieces, piece)
	}
	if !board.May(x) {
		t.Fatalf("no table may be so: %+v", l)
	}
	return x
}

// rows is the table of might.
func rows(t *testing.T) api.Table {
	t.Helper()
	return table(t, laid{lord, 0, 0, api.Row, 0, true}, laid{pawn, 0, 0, api.Row, 1, false}, laid{pawn, 1, 1, api.Row, 0, true})
}

// spread is a table whose numbers are not in the order of its places: 4, 0, 2 in the Row of 0, 3, 1 in that of 1; 5 in Back of 0, 6 in that of 1; 9, 8, 7 in the Grave of 0, 10 in that of 1; 11 and 12 Nowhere.
func spread(t *testing.T) api.Table {
	t.Helper()
	return table(t,
		laid{pawn, 0, 0, api.Row, 1, true}, laid{lord, 1, 1, api.Row, 4, true}, laid{pawn, 1, 0, api.Row, 3, false}, laid{-1, 1, 1, api.Row, 0, true}, laid{-1, 0, 0, api.Row, 0, true},
		laid{net, 0, 0, api.Back, 2, true}, laid{rain, 1, 1, api.Back, 0, false},
		laid{pawn, 0, 0, api.Grave, 2, true}, laid{net, 0, 0, api.Grave, 1, true}, laid{rain, 0, 0, api.Grave, 0, true}, laid{pawn, 1, 1, api.Grave, 0, true},
		laid{-1, 0, 0, api.Nowhere, 0, false}, laid{-1, 1, 1, api.Nowhere, 0, false})
}

// picking is an effect that picks n of any row all.
func picking(n int) api.Effect {
	return api.Effect{Pick: n, Sel: api.Sel{Side: api.Any, Zone: api.Row}}
}

// P9.1: the chapter's example.
func TestExample(t *testing.T) {
	x, e := rows(t), picking(1)
	if l := aim.Cards(x, 0, 0, e); !slices.Equal(l, []int{1, 2}) {
		t.Errorf("Cards = %v", l)
	}
	if aim.May(x, 0, 0, e, []int{0}) {
		t.Error("May of that one itself")
	}
	if !aim.May(x, 0, 0, e, []int{1}) {
		t.Error("May of the second one")
	}
	if l := aim.Targets(x, 0, 0, e, api.Step{}, []int{2, 0}); !slices.Equal(l, []int{2}) {
		t.Errorf("Targets = %v", l)
	}
}

// P9.1: the pieces of the Sel, own ones first, by places; the piece itself only of self.
func TestCards(t *testing.T) {
	x := spread(t)
	for i, c := range []struct {
		who  uint8
		id   int
		sel  api.Sel
		want []int
	}{
		{0, 0, api.Sel{Side: api.Any, Zone: api.Row}, []int{4, 2, 3, 1}},
		{1, 0, api.Sel{Side: api.Any, Zone: api.Row}, []int{3, 1, 4, 2}},
		{1, 1, api.Sel{Side: api.Any, Zone: api.Row}, []int{3, 4, 0, 2}},
		{0, 5, api.Sel{Side: api.Any, Zone: api.Row}, []int{4, 0, 2, 3, 1}},
		{0, 4, api.Sel{Side: api.Mine, Zone: api.Row}, []int{0, 2}},
		{0, 4, api.Sel{Side: api.Theirs, Zone: api.Row}, []int{3, 1}},
		{1, 4, api.Sel{Side: api.Theirs, Zone: api.Row}, []int{0, 2}},
		{0, 0, api.Sel{Side: api.Any, Zone: api.Row, Kind: api.Unit + 1}, []int{4, 3, 1}},
		{0, 0, api.Sel{Side: api.Any, Zone: api.Row, Kind: api.Trap + 1}, nil},
		{0, 0, api.Sel{Side: api.Self, Zone: api.Row}, []int{0}},
		{1, 0, api.Sel{Side: api.Self, Zone: api.Row, Kind: api.Unit + 1}, []int{0}},
		{0, 2, api.Sel{Side: api.Self, Zone: api.Row}, []int{2}},
		{0, 2, api.Sel{Side: api.Self, Zone: api.Row, Kind: api.Unit + 1}, nil},
		{0, 0, api.Sel{Side: api.Self, Zone: api.Grave}, nil},
		{0, 8, api.Sel{Side: api.Self, Zone: api.Grave, Kind: api.Trap + 1}, []int{8}},
		{0, 8, api.Sel{Side: api.Any, Zone: api.Grave}, []int{9, 7, 10}},
		{1, 10, api.Sel{Side: api.Mine, Zone: api.Grave}, nil},
		{0, 0, api.Sel{Side: api.Any, Zone: api.Back}, []int{5, 6}},
		{0, 5, api.Sel{Side: api.Mine, Zone: api.Back}, nil},
		{0, 0, api.Sel{Side: api.Any, Zone: api.Back, Kind: api.Spell + 1}, nil},
		{0, 0, api.Sel{Side: api.Any, Zone: api.Nowhere}, []int{11, 12}},
		{0, 0, api.Sel{Side: api.Any, Zone: api.Hand}, nil},
		{0, 0, api.Sel{Side: api.Any, Zone: api.Nowhere + 1}, nil},
		{0, 0, api.Sel{Side: api.Self + 1, Zone: api.Row}, nil},
		{0, 0, api.Sel{Side: math.MaxUint8, Zone: api.Row}, nil},
		{0, -1, api.Sel{Side: api.Any, Zone: api.Row}, nil},
		{0, 13, api.Sel{Side: api.Any, Zone: api.Row}, nil},
	} {
		for _, n := range []int{1, 2, api.MaxPicks, api.MaxPicks + 1, math.MaxInt} {
			if l := aim.Cards(x, c.who, c.id, api.Effect{Pick: n, Sel: c.sel}); !slices.Equal(l, c.want) {
				t.Errorf("%d: Cards of %d = %v; not %v", i, n, l, c.want)
			}
		}
		for _, n := range []int{0, -1, math.MinInt} {
			if l := aim.Cards(x, c.who, c.id, api.Effect{Pick: n, Sel: c.sel}); len(l) != 0 {
				t.Errorf("%d: Cards of %d = %v", i, n, l)
			}
		}
	}
}

// P9.1: picks are just as many as the effect picks, each once, of those that may be picked.
func TestMay(t *testing.T) {
	x := spread(t)
	for i, c := range []struct {
		n     int
		picks []int
		may   bool
	}{
		{1, []int{4}, true}, {1, []int{1}, true}, {1, nil, false}, {1, []int{}, false}, {1, []int{4, 1}, false},
		{1, []int{0}, false}, {1, []int{5}, false}, {1, []int{-1}, false}, {1, []int{13}, false}, {1, []int{math.MinInt}, false}, {1, []int{math.MaxInt}, false},
		{2, []int{4, 2}, true}, {2, []int{2, 4}, true}, {2, []int{3, 2}, true}, {2, []int{4}, false}, {2, []int{4, 4}, false}, {2, []int{4, 0}, false}, {2, []int{0, 4}, false}, {2, []int{4, 6}, false}, {2, []int{4, 2, 2}, false},
		{3, []int{1, 2, 3}, true}, {3, []int{1, 2, 1}, false}, {3, []int{2, 1, 1}, false}, {3, []int{1, 2}, false},
		{4, []int{1, 2, 3, 4}, true}, {5, []int{1, 2, 3, 4, 0}, false}, {5, []int{1, 2, 3, 4, 4}, false},
		{0, nil, true}, {0, []int{}, true}, {0, []int{4}, false}, {-1, nil, true}, {-1, []int{}, true}, {-1, []int{4}, false}, {math.MinInt, nil, true}, {math.MinInt, []int{4}, false}, {math.MaxInt, nil, false}, {math.MaxInt, []int{4}, false},
	} {
		if is := aim.May(x, 0, 0, picking(c.n), c.picks); is != c.may {
			t.Errorf("%d: May(%d, %v) = %v", i, c.n, c.picks, is)
		}
	}
	self := api.Effect{Pick: 1, Sel: api.Sel{Side: api.Self, Zone: api.Row}}
	if !aim.May(x, 0, 0, self, []int{0}) || aim.May(x, 0, 0, self, []int{4}) || aim.May(x, 0, 5, self, []int{5}) {
		t.Error("May of self")
	}
	if !aim.May(x, 1, -1, picking(0), nil) || aim.May(x, 1, -1, picking(1), []int{4}) {
		t.Error("May of no piece")
	}
}

// P9.1: what a step that is not All is about: those picked that may still be, in that order, each once, however many; none, if none may be picked.
func TestTargetsOfPicks(t *testing.T) {
	x := spread(t)
	for i, c := range []struct{ picks, want []int }{
		{nil, nil}, {[]int{4}, []int{4}}, {[]int{1, 4, 2, 3}, []int{1, 4, 2, 3}}, {[]int{3, 2, 4, 1}, []int{3, 2, 4, 1}},
		{[]int{0}, nil}, {[]int{0, 4, 0}, []int{4}}, {[]int{4, 4, 4}, []int{4}}, {[]int{1, 4, 1, 2, 4}, []int{1, 4, 2}},
		{[]int{5, 1, 7, 2, 11}, []int{1, 2}}, {[]int{-1, 13, math.MaxInt, math.MinInt}, nil}, {[]int{-1, 3, 13}, []int{3}},
	} {
		for _, n := range []int{1, 2, 3, 5, math.MaxInt} {
			l := aim.Targets(x, 0, 0, picking(n), api.Step{Sel: api.Sel{Side: api.Mine, Zone: api.Grave}}, c.picks)
			if !slices.Equal(l, c.want) {
				t.Errorf("%d: Targets(%v) = %v; not %v", i, c.picks, l, c.want)
			}
		}
		for _, n := range []int{0, -1, math.MinInt} {
			if l := aim.Targets(x, 0, 0, picking(n), api.Step{}, c.picks); len(l) != 0 {
				t.Errorf("%d: Targets(%v) of Pick %d = %v", i, c.picks, n, l)
			}
		}
	}
	self := api.Effect{Pick: 1, Sel: api.Sel{Side: api.Self, Zone: api.Row}}
	if l := aim.Targets(x, 0, 2, self, api.Step{}, []int{4, 2}); !slices.Equal(l, []int{2}) {
		t.Errorf("Targets of self = %v", l)
	}
	self.Pick = 0
	if l := aim.Targets(x, 0, 2, self, api.Step{}, []int{4, 2}); len(l) != 0 {
		t.Errorf("Targets of self, of Pick 0 = %v", l)
	}
}

// P9.1: a card that was picked went elsewhere, or was turned face down: the step is not about it.
func TestTargetsThatWent(t *testing.T) {
	x := spread(t)
	e, picks := picking(3), []int{1, 4, 3}
	if !aim.May(x, 0, 0, e, picks) {
		t.Fatal("May")
	}
	y, no := board.Put(x, 4, api.Grave, 0, true, false)
	if no != api.OK {
		t.Fatal(no)
	}
	if l := aim.Targets(y, 0, 0, e, api.Step{}, picks); !slices.Equal(l, []int{1, 3}) {
		t.Errorf("Targets = %v", l)
	}
	units := e
	units.Sel.Kind = api.Unit + 1
	y.Pieces[1].Up = false
	if l := aim.Targets(y, 0, 0, units, api.Step{}, picks); !slices.Equal(l, []int{3}) {
		t.Errorf("Targets of units = %v", l)
	}
}

// P9.1: what a step that is All is about: the pieces of its own Sel, itself too, whatever was picked.
func TestTargetsOfAll(t *testing.T) {
	x := spread(t)
	for i, c := range []struct {
		who  uint8
		id   int
		sel  api.Sel
		want []int
	}{
		{0, 0, api.Sel{Side: api.Any, Zone: api.Row}, []int{4, 0, 2, 3, 1}},
		{1, 1, api.Sel{Side: api.Any, Zone: api.Row}, []int{3, 1, 4, 0, 2}},
		{0, 0, api.Sel{Side: api.Mine, Zone: api.Row, Kind: api.Unit + 1}, []int{4, 0}},
		{1, 0, api.Sel{Side: api.Theirs, Zone: api.Grave}, []int{9, 8, 7}},
		{0, 2, api.Sel{Side: api.Self, Zone: api.Row}, []int{2}},
		{0, 2, api.Sel{Side: api.Self, Zone: api.Grave}, nil},
		{0, 0, api.Sel{Side: api.Self + 1, Zone: api.Row}, nil},
		{0, -1, api.Sel{Side: api.Any, Zone: api.Row}, nil},
	} {
		for _, picks := range [][]int{nil, {4}, {0, 5, 9}, {-1, 99}} {
			for _, e := range []api.Effect{{}, picking(1), picking(0), picking(-1)} {
				l := aim.Targets(x, c.who, c.id, e, api.Step{All: true, Sel: c.sel}, picks)
				if !slices.Equal(l, c.want) {
					t.Errorf("%d: Targets = %v; not %v", i, l, c.want)
				}
			}
		}
	}
}

// P9.1: of a table that may not be, of no player: none, no.
func TestOfNothing(t *testing.T) {
	spoils := map[string]func(x *api.Table){
		"no turn":       func(x *api.Table) { x.Turn = 0 },
		"a life":        func(x *api.Table) { x.Life[1] = api.MaxLife + 1 },
		"whose turn":    func(x *api.Table) { x.Player = 2 },
		"no kind":       func(x *api.Table) { x.Pieces[2].Def = net + 1 },
		"one place":     func(x *api.Table) { x.Pieces[1].At = 0 },
		"a spell there": func(x *api.Table) { x.Pieces[1].Def = rain },
		"nothing":       func(x *api.Table) { *x = api.Table{} },
	}
	never := func(what string, x api.Table, who uint8) {
		for _, n := range []int{-1, 0, 1} {
			for _, picks := range [][]int{nil, {1}} {
				if l := aim.Cards(x, who, 0, picking(n)); len(l) != 0 {
					t.Errorf("%s: Cards(%d) = %v", what, who, l)
				}
				if aim.May(x, who, 0, picking(n), picks) {
					t.Errorf("%s: May(%d, %d, %v)", what, who, n, picks)
				}
				for _, s := range []api.Step{{}, {All: true, Sel: api.Sel{Side: api.Any, Zone: api.Row}}} {
					if l := aim.Targets(x, who, 0, picking(n), s, picks); len(l) != 0 {
						t.Errorf("%s: Targets(%d) = %v", what, who, l)
					}
				}
			}
		}
	}
	for what, spoil := range spoils {
		for who := range uint8(3) {
			x := rows(t)
			spoil(&x)
			never(what, x, who)
		}
	}
	for who := 2; who < 256; who++ {
		never("no player", rows(t), uint8(who))
	}
}

// What was handed in stays as it is, the room behind its end too; each answer is of its own memory.
func TestStays(t *testing.T) {
	x := spread(t)
	room := []int{1, 4, 4, 3, 77, 78}
	picks := room[:4]
	calls := map[string]func() []int{
		"Cards":          func() []int { return aim.Cards(x, 0, 0, picking(2)) },
		"Targets":        func() []int { return aim.Targets(x, 0, 0, picking(2), api.Step{}, picks) },
		"Targets of one": func() []int { return aim.Targets(x, 0, 0, picking(2), api.Step{}, picks[:1]) },
		"Targets of All": func() []int {
			return aim.Targets(x, 0, 0, picking(2), api.Step{All: true, Sel: api.Sel{Zone: api.Row}}, picks)
		},
	}
	for what, call := range calls {
		first := call()
		kept := slices.Clone(first)
		second := call()
		for i := range second {
			second[i] = -9
		}
		if len(first) == 0 || !slices.Equal(first, kept) {
			t.Errorf("%s: two answers share memory", what)
		}
		first = append(first, -8)
		if again := call(); !slices.Equal(again, kept) {
			t.Errorf("%s = %v; not %v", what, again, kept)
		}
	}
	aim.May(x, 0, 0, picking(4), picks)
	if !reflect.DeepEqual(x, spread(t)) || !slices.Equal(room, []int{1, 4, 4, 3, 77, 78}) {
		t.Error("what was handed in changed")
	}
}
