package eval_test

import (
	"math"
	"reflect"
	"slices"
	"testing"

	"joust/api"
	"joust/board"
	"joust/eval"
	"joust/parse"
)

// The places of pool's kinds.
const (
	pawn = iota
	lord
	rain
	net
)

// pool is a unit, one that gives 300 to its side's units, a spell and a trap.
func pool() []api.Card {
	gift := api.Step{Do: api.StBoost, All: true, N: api.Expr{N: 300}, Sel: api.Sel{Zone: api.Row, Kind: api.Unit + 1}}
	return []api.Card{
		{Name: "pawn", Attack: 500},
		{Name: "lord", Attack: 1000, Effects: []api.Effect{{Mode: api.Aura, Steps: []api.Step{gift}}}},
		{Name: "rain", Kind: api.Spell},
		{Name: "net", Kind: api.Trap},
	}
}

// laid is where a card goes: which kind, whose, who has it, where, at which place, Up.
type laid struct {
	def        int
	owner, has uint8
	zone       uint8
	at         int
	up         bool
}

// table is these pieces, by numbers.
func table(t *testing.T, l ...laid) api.Table {
	t.Helper()
	x := api.Table{Kinds: pool(), Turn: 1, Life: [2]int{300, 5000}}
	for _, p := range l {
		piece := api.Piece{Def: p.def, Owner: p.owner, Has: p.has, Zone: p.zone, At: p.at, Up: p.up}
		if p.def >= 0 {
			piece.Attack = x.Kinds[p.def].Attack
		}
		x.Pieces = append(x.Pieces, piece)
	}
	if !board.May(x) {
		t.Fatalf("no table may be so: %+v", l)
	}
	return x
}

// rows is the table of might.
func rows(t *testing.T) api.Table {
	t.Helper()
	return table(t, laid{lord, 0, 0, api.Row, 0, true}, laid{pawn, 0, 0, api.Row, 1, false}, laid{pawn, 1, 1, api.Row, 0, true})
}

// spread is a table whose numbers are not in the order of its places, with something of each player in each zone.
func spread(t *testing.T) api.Table {
	t.Helper()
	var l []laid
	for who := range uint8(2) {
		l = append(l,
			laid{pawn, who, who, api.Row, 4, true}, laid{lord, 1 - who, who, api.Row, 2, false}, laid{-1, who, who, api.Row, 0, true}, laid{pawn, who, who, api.Row, 3, false},
			laid{net, who, who, api.Back, 3, false}, laid{rain, 1 - who, who, api.Back, 1, true}, laid{net, who, who, api.Back, 0, true},
			laid{-1, who, who, api.Nowhere, 0, false}, laid{-1, who, who, api.Nowhere, 0, false})
		for _, zone := range []uint8{api.Grave, api.Deck, api.Exile, api.Hand} {
			l = append(l, laid{rain, who, who, zone, 2, who == 0}, laid{pawn, who, who, zone, 0, who == 0}, laid{net, who, who, zone, 1, who == 0})
		}
	}
	slices.Reverse(l[:7])
	return table(t, append(l, laid{pawn, 0, 1, api.Limbo, 0, true})...)
}

// read is the expressions of a text.
func read(t *testing.T, text string) []api.Expr {
	t.Helper()
	l, f := parse.Exprs(text)
	if f.E != api.OK {
		t.Fatalf("Exprs(%q): %v", text, f)
	}
	return l
}

func want(t *testing.T, x api.Table, who uint8, id int, text string, n int) {
	t.Helper()
	if is := eval.Value(x, who, id, read(t, text)[0]); is != n {
		t.Errorf("Value(%d, %d, %s) = %d; not %d", who, id, text, is, n)
	}
}

// P8.1: the chapter's example.
func TestExample(t *testing.T) {
	x := rows(t)
	want(t, x, 0, 0, "power", 1300)
	want(t, x, 0, 0, "count any row all", 3)
	want(t, x, 0, 0, "(* 99999 99999)", 99999)
	want(t, x, 0, 0, "(- 1 2)", -1)
	want(t, x, 0, 0, "(not 0)", 1)
}

// P8.1: a number is itself, within the bounds.
func TestNumbers(t *testing.T) {
	x := rows(t)
	for n, want := range map[int]int{0: 0, 1: 1, -1: -1, 99998: 99998, 99999: 99999, 100000: 99999, math.MaxInt: 99999, -99998: -99998, -99999: -99999, -100000: -99999, math.MinInt: -99999} {
		for who := range uint8(2) {
			if is := eval.Value(x, who, 1, api.Expr{N: n}); is != want {
				t.Errorf("Value(%d) = %d", n, is)
			}
		}
	}
}

// P8.1: lives of each side, for each player, whoever's turn it is; both together within the bounds.
func TestLives(t *testing.T) {
	x := rows(t)
	for _, lives := range [][2]int{{0, 0}, {300, 5000}, {0, 7}, {99998, 1}, {99999, 1}, {99999, 99999}} {
		for who := range uint8(2) {
			x.Life, x.Player = lives, 1-x.Player
			own, others := lives[who], lives[1-who]
			want(t, x, who, 0, "life mine", own)
			want(t, x, who, 2, "life self", own)
			want(t, x, who, 0, "life theirs", others)
			want(t, x, who, 2, "life any", min(own+others, 99999))
		}
	}
}

// P8.1: power is the attack of the piece, with what auras give it, for whomever it is told.
func TestPower(t *testing.T) {
	x := rows(t)
	x.Pieces[1].Up, x.Pieces[2].Boost = true, -499
	for who := range uint8(2) {
		for id, n := range map[int]int{0: 1300, 1: 800, 2: 1, 3: 0, -1: 0, math.MaxInt: 0, math.MinInt: 0} {
			want(t, x, who, id, "power", n)
			want(t, x, who, id, "(+ 1 power)", n+1)
		}
	}
}

// P8.1: which pieces are counted, and in which order: own ones first, by places.
func TestCount(t *testing.T) {
	x := table(t,
		laid{pawn, 1, 1, api.Row, 1, true}, laid{pawn, 0, 0, api.Row, 4, false}, laid{lord, 1, 0, api.Row, 0, true}, laid{-1, 1, 1, api.Row, 0, true},
		laid{net, 0, 0, api.Grave, 2, true}, laid{pawn, 0, 0, api.Grave, 0, true}, laid{rain, 0, 0, api.Grave, 1, true}, laid{pawn, 1, 1, api.Grave, 0, true},
		laid{-1, 1, 1, api.Nowhere, 0, false}, laid{-1, 0, 0, api.Nowhere, 0, false}, laid{-1, 1, 1, api.Nowhere, 0, false}, laid{pawn, 0, 0, api.Limbo, 0, true})
	for i, c := range []struct {
		who  uint8
		id   int
		sel  api.Sel
		want []int
	}{
		{0, 0, api.Sel{Side: api.Any, Zone: api.Row}, []int{2, 1, 3, 0}},
		{1, 0, api.Sel{Side: api.Any, Zone: api.Row}, []int{3, 0, 2, 1}},
		{0, 0, api.Sel{Side: api.Mine, Zone: api.Row}, []int{2, 1}},
		{1, 0, api.Sel{Side: api.Mine, Zone: api.Row}, []int{3, 0}},
		{0, 0, api.Sel{Side: api.Theirs, Zone: api.Row}, []int{3, 0}},
		{1, 0, api.Sel{Side: api.Theirs, Zone: api.Row}, []int{2, 1}},
		{0, 0, api.Sel{Side: api.Any, Zone: api.Row, Kind: api.Unit + 1}, []int{2, 3, 0}},
		{0, 0, api.Sel{Side: api.Self, Zone: api.Row}, []int{0}},
		{1, 1, api.Sel{Side: api.Self, Zone: api.Row}, []int{1}},
		{1, 1, api.Sel{Side: api.Self, Zone: api.Row, Kind: api.Unit + 1}, nil},
		{1, 1, api.Sel{Side: api.Self, Zone: api.Grave}, nil},
		{1, 0, api.Sel{Side: api.Any, Zone: api.Grave}, []int{7, 5, 6, 4}},
		{0, 0, api.Sel{Side: api.Any, Zone: api.Grave, Kind: api.Unit + 1}, []int{5, 7}},
		{0, 0, api.Sel{Side: api.Any, Zone: api.Grave, Kind: api.Counter + 1}, nil},
		{0, 0, api.Sel{Side: api.Any, Zone: api.Nowhere}, []int{9, 8, 10}},
		{1, 0, api.Sel{Side: api.Any, Zone: api.Nowhere}, []int{8, 10, 9}},
		{1, 0, api.Sel{Side: api.Any, Zone: api.Limbo}, []int{11}},
		{1, 0, api.Sel{Side: api.Any, Zone: api.Hand}, nil},
		{0, 0, api.Sel{Side: api.Any, Zone: api.Nowhere + 1}, nil},
		{0, 0, api.Sel{Side: api.Self + 1, Zone: api.Row}, nil},
		{0, 0, api.Sel{Side: math.MaxUint8, Zone: api.Row}, nil},
		{2, 0, api.Sel{Side: api.Any, Zone: api.Row}, nil},
		{math.MaxUint8, 0, api.Sel{Side: api.Self, Zone: api.Row}, nil},
		{0, 12, api.Sel{Side: api.Any, Zone: api.Row}, nil},
		{0, -1, api.Sel{Side: api.Any, Zone: api.Row}, nil},
	} {
		if l := eval.Count(x, c.who, c.id, c.sel); !slices.Equal(l, c.want) {
			t.Errorf("%d: Count = %v; not %v", i, l, c.want)
		}
		n := eval.Value(x, c.who, c.id, api.Expr{Op: api.ExCount, Sel: c.sel})
		if n != len(c.want) {
			t.Errorf("%d: Value = %d; not %d", i, n, len(c.want))
		}
	}
}

// P8.1: a count of a side that is none is 0 by itself, and spoils nothing.
func TestCountOfNothing(t *testing.T) {
	x := rows(t)
	for _, sel := range []api.Sel{{Side: 4, Zone: api.Row}, {Side: 255, Zone: api.Row}, {Side: api.Any, Zone: 8}, {Zone: api.Row, Kind: 200}} {
		none := api.Expr{Op: api.ExCount, Sel: sel}
		if n := eval.Value(x, 0, 0, api.Expr{Op: api.ExNot, Args: []api.Expr{none}}); n != 1 {
			t.Errorf("%+v: not = %d", sel, n)
		}
	}
}

// P8.1: All is yes, if none is 0; what is below 0 is not 0.
func TestAll(t *testing.T) {
	x := rows(t)
	for text, yes := range map[string]bool{
		"": true, "1": true, "0": false, "(- 1 2)": true, "(- 2 2)": false, "count mine back all": false, "power": true,
		"1 2 3 4 5 6": true, "0 2 3 4 5 6": false, "1 2 3 4 5 0": false, "1 2 0 4 5 6": false, "0 0": false, "life mine (< 299 life mine)": true, "life mine (< 300 life mine)": false,
	} {
		if is := eval.All(x, 0, 0, read(t, text)); is != yes {
			t.Errorf("All(%q) = %v", text, is)
		}
	}
	if !eval.All(x, 1, 0, read(t, "(< 300 life mine)")) || !eval.All(x, 0, 2, read(t, "(= power 500)")) || eval.All(x, 0, 0, read(t, "(= power 500)")) {
		t.Error("All of another player, of another piece")
	}
	many := slices.Repeat([]api.Expr{{N: 1}}, 5000)
	if !eval.All(x, 0, 0, many) || eval.All(x, 0, 0, append(many, api.Expr{})) {
		t.Error("All of many")
	}
}

// P8.1: of a table that may not be, of no player.
func TestOfNothing(t *testing.T) {
	spoils := map[string]func(x *api.Table){
		"no turn":       func(x *api.Table) { x.Turn = 0 },
		"a life":        func(x *api.Table) { x.Life[1] = api.MaxLife + 1 },
		"whose turn":    func(x *api.Table) { x.Player = 2 },
		"no kind":       func(x *api.Table) { x.Pieces[2].Def = net + 1 },
		"one place":     func(x *api.Table) { x.Pieces[1].At = 0 },
		"a spell there": func(x *api.Table) { x.Pieces[1].Def = rain },
		"nothing":       func(x *api.Table) { *x = api.Table{} },
	}
	anything := read(t, "7 life any count any row all power (+ 1 1) (not 0)")
	never := func(what string, x api.Table, who uint8) {
		for i, e := range anything {
			if n := eval.Value(x, who, 0, e); n != 0 || eval.All(x, who, 0, anything[i:i+1]) {
				t.Errorf("%s: Value(%d, %d) = %d", what, who, i, n)
			}
		}
		if l := eval.Count(x, who, 0, api.Sel{Side: api.Any, Zone: api.Row}); len(l) != 0 {
			t.Errorf("%s: Count(%d) = %v", what, who, l)
		}
		if eval.All(x, who, 0, anything) || !eval.All(x, who, 0, nil) || !eval.All(x, who, 0, anything[:0]) {
			t.Errorf("%s: All(%d)", what, who)
		}
	}
	for what, spoil := range spoils {
		for who := range uint8(3) {
			x := rows(t)
			spoil(&x)
			never(what, x, who)
		}
	}
	for who := 2; who < 256; who++ {
		never("no player", rows(t), uint8(who))
	}
}

// What was handed in stays as it is; each answer is of its own memory.
func TestStays(t *testing.T) {
	x := spread(t)
	l := read(t, "(+ (* 2 (- 3 life any)) (not (and power count any row unit))) 0 1")
	for who := range uint8(2) {
		for id := range x.Pieces {
			eval.Value(x, who, id, l[0])
			eval.All(x, who, id, l)
			sel := api.Sel{Side: api.Any, Zone: x.Pieces[id].Zone}
			first := eval.Count(x, who, id, sel)
			kept := slices.Clone(first)
			second := eval.Count(x, who, id, sel)
			for i := range second {
				second[i] = -9
			}
			if !slices.Equal(first, kept) {
				t.Fatal("two answers of Count share memory")
			}
		}
	}
	if !reflect.DeepEqual(x, spread(t)) || !reflect.DeepEqual(l, read(t, "(+ (* 2 (- 3 life any)) (not (and power count any row unit))) 0 1")) {
		t.Error("what was handed in changed")
	}
}
