package move_test

import (
	"math"
	"slices"
	"testing"

	"joust/api"
	"joust/board"
	"joust/duel"
	"joust/move"
)

// noWhere asks that a piece is not told.
func noWhere(t *testing.T, what string, x api.Table, who uint8, id int) {
	t.Helper()
	if s, ok := move.Where(x, who, id); s != "" || ok {
		t.Errorf("%s: Where(%d, %d) = %q, %t", what, who, id, s, ok)
	}
}

// noFind asks that a text is no piece's.
func noFind(t *testing.T, what string, x api.Table, who uint8, s string) {
	t.Helper()
	if id, ok := move.Find(x, who, s); id != 0 || ok {
		t.Errorf("%s: Find(%d, %q) = %d, %t", what, who, s, id, ok)
	}
}

// P21.1: where each piece is, in each zone, as each player says it; found again by that.
func TestWhere(t *testing.T) {
	d := laid(t)
	if len(lies()) != len(d.Table.Pieces) {
		t.Fatalf("%d pieces", len(d.Table.Pieces))
	}
	for id, as := range lies() {
		for who, want := range as {
			if want == "-" {
				noWhere(t, "nowhere", d.Table, uint8(who), id)
				continue
			}
			if s, ok := move.Where(d.Table, uint8(who), id); s != want || !ok {
				t.Errorf("Where(%d, %d) = %q, %t; not %q", who, id, s, ok, want)
			}
			if n, ok := move.Find(d.Table, uint8(who), want); n != id || !ok {
				t.Errorf("Find(%d, %q) = %d, %t; not %d", who, want, n, ok, id)
			}
		}
	}
}

// P21.1: no piece, no player.
func TestWhereOfNothing(t *testing.T) {
	x := laid(t).Table
	for who := range 256 {
		for _, id := range []int{math.MinInt, -2, -1, len(x.Pieces), len(x.Pieces) + 1, math.MaxInt} {
			noWhere(t, "no piece", x, uint8(who), id)
		}
		for id, as := range lies() {
			if who > 1 {
				noWhere(t, "no player", x, uint8(who), id)
				noFind(t, "no player", x, uint8(who), as[0])
				noFind(t, "no player", x, uint8(who), as[1])
			}
		}
		noFind(t, "no text", x, uint8(who), "")
	}
	noWhere(t, "no piece", api.Table{Turn: 1}, 0, 0)
	noFind(t, "no piece", api.Table{Turn: 1}, 0, "my deck 0")
}

// P21.1: texts that are no piece's, as they stand.
func TestFindOfWrongTexts(t *testing.T) {
	x := laid(t).Table
	for _, s := range []string{
		"", " ", "-", "my", "their", "my hand", "hand 0", "my 0", "0", "my hand 0 0", "my hand 0 my hand 0",
		" my hand 0", "my hand 0 ", "my  hand 0", "my hand  0", "my\thand 0", "my hand\n0", "my hand 0\n", "myhand 0", "my hand0", "my hand 0\x00",
		"My hand 0", "my Hand 0", "MY HAND 0", "your hand 0", "mine hand 0", "0 hand 0",
		"my hand 3", "my hand -1", "my hand -0", "my hand +0", "my hand 00", "my hand 01", "my hand 0x0", "my hand 0.0", "my hand ٠", "my hand x", "my hand 18446744073709551616",
		"my row 4", "my back 2", "their row 2", "my exile 0", "their grave 0", "my limbo 0", "their limbo 1", "my deck 1", "my deck 2",
		"my nowhere 0", "their nowhere 0", "my zone 0", "my  0", "my hands 0", "my \xff 0",
	} {
		noFind(t, "wrong", x, 0, s)
	}
}

// wrongTables are some that may not be.
func wrongTables() []func(x *api.Table) {
	return []func(x *api.Table){
		func(x *api.Table) { x.Turn = 0 },
		func(x *api.Table) { x.Turn = math.MinInt },
		func(x *api.Table) { x.Player = 2 },
		func(x *api.Table) { x.Life[1] = -1 },
		func(x *api.Table) { x.Life[0] = api.MaxLife + 1 },
		func(x *api.Table) { x.Kinds = nil },
		func(x *api.Table) { x.Pieces[0].Def = 99 },
		func(x *api.Table) { x.Pieces[0].Def = -2 },
		func(x *api.Table) { x.Pieces[1].Zone = api.Nowhere + 1 },
		func(x *api.Table) { x.Pieces[1].Zone = 255 },
		func(x *api.Table) { x.Pieces[1].Zone = api.Nowhere },
		func(x *api.Table) { x.Pieces[1].Has = 2 },
		func(x *api.Table) { x.Pieces[1].Owner = 255 },
		func(x *api.Table) { x.Pieces[6].Has = 1 },
		func(x *api.Table) { x.Pieces[1].At = api.Slots },
		func(x *api.Table) { x.Pieces[1].At = -1 },
		func(x *api.Table) { x.Pieces[1].At = 1 },
		func(x *api.Table) { x.Pieces[9].At = 3 },
		func(x *api.Table) { x.Pieces[10].At = 1 },
		func(x *api.Table) { x.Pieces[19].At = 1 },
		func(x *api.Table) { x.Pieces[3].Zone, x.Pieces[3].At = api.Row, 4 },
		func(x *api.Table) { x.Pieces[5].Attack = -1 },
		func(x *api.Table) { x.Pieces[5].Guard = api.MaxNumber + 1 },
		func(x *api.Table) { x.Pieces = append(x.Pieces, make([]api.Piece, api.MaxCards)...) },
		func(x *api.Table) { x.Pieces = append(x.Pieces, make([]api.Piece, 1<<16)...) },
	}
}

// P21.1: of a table that may not be nothing is told.
func TestWhereOfWrongTables(t *testing.T) {
	for i, change := range wrongTables() {
		d := laid(t)
		change(&d.Table)
		if board.May(d.Table) {
			t.Fatalf("%d: the table may be", i)
		}
		for id, as := range lies() {
			for who, s := range as {
				noWhere(t, "no table", d.Table, uint8(who), id)
				noFind(t, "no table", d.Table, uint8(who), s)
			}
		}
		noWhere(t, "no table", d.Table, 0, len(d.Table.Pieces)-1)
	}
	noWhere(t, "zero", api.Table{}, 0, 0)
	noFind(t, "zero", api.Table{}, 0, "my deck 0")
}

// P21.1: numbers of places are told whole, of as many pieces as there may be.
func TestManyPlaces(t *testing.T) {
	deck := make([]int, api.MaxDeck)
	x := begun(t, pool(t), deck, deck).Table
	for range api.MaxCards - 2*api.MaxDeck {
		y, id, _ := board.Token(x, 1, 100)
		noFind(t, "ahead of it", x, 1, "my row 0")
		if s, ok := move.Where(y, 1, id); s != "my row 0" || !ok {
			t.Errorf("Where = %q, %t", s, ok)
		}
		if n, ok := move.Find(y, 0, "their row 0"); n != id || !ok {
			t.Errorf("Find = %d, %t; not %d", n, ok, id)
		}
		x, _ = board.Put(y, id, api.Grave, 1, true, false)
		noWhere(t, "a token that went", x, 1, id)
	}
	for at, want := range map[int]string{0: "my deck 0", 9: "my deck 9", 10: "my deck 10", 39: "my deck 39", 40: "their deck 0", 79: "their deck 39"} {
		if s, ok := move.Where(x, 0, at); s != want || !ok {
			t.Errorf("Where(%d) = %q, %t", at, s, ok)
		}
	}
	x = laid(t).Table
	x.Pieces[1].At = 4
	if s, _ := move.Where(x, 1, 1); s != "their row 4" {
		t.Errorf("Where = %q", s)
	}
	noFind(t, "a free place between", x, 1, "their row 0")
}

// Rules 5 and 8: what is handed in stays as it is, and the answer is the same again.
func TestSameAgain(t *testing.T) {
	d, was := laid(t), laid(t)
	texts, want := move.All(d), move.All(was)
	for range 2 {
		for id, as := range lies() {
			move.Where(d.Table, 0, id)
			move.Find(d.Table, 1, as[1])
		}
		for n, s := range move.All(d) {
			move.Text(d, n)
			move.Parse(d, s)
		}
	}
	if !duel.Same(d, was) {
		t.Error("the duel changed")
	}
	clear(texts[:cap(texts)])
	if again := move.All(d); !slices.Equal(again, want) {
		t.Errorf("All = %q; not %q", again, want)
	}
}
