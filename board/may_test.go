package board_test

import (
	"math"
	"math/rand/v2"
	"testing"

	"joust/api"
	"joust/board"
)

// laid is a table in which there is something in each zone, but in Limbo.
func laid(t *testing.T) api.Table {
	t.Helper()
	x := begun(t, []int{ogre, ogre, ogre, rain, net, wind, ogre, rain}, []int{ogre, stop, ogre, odd, ogre})
	for id, zone := range []uint8{api.Row, api.Row, api.Hand, api.Hand, api.Back, api.Grave, api.Grave, api.Exile, api.Row, api.Back, api.Exile} {
		x = put(t, x, id, zone, 0, true, false)
	}
	x = token(t, token(t, x, 1, 7), 0, 8)
	x = put(t, token(t, x, 1, 9), 14, api.Grave, 0, true, false)
	return put(t, x, 15, api.Row, 0, true, false)
}

func wantMay(t *testing.T, what string, x api.Table, want bool) {
	t.Helper()
	if board.May(x) != want {
		t.Errorf("%s: May = %v of %+v", what, !want, x.Pieces)
	}
	if want == reading(x) {
		return
	}
	t.Errorf("%s: the second reading is not %v of %+v", what, want, x.Pieces)
}

// reading is a second reading of which tables may be: pieces are counted by where they lie, then each count is looked at.
func reading(x api.Table) bool {
	ok := x.Turn >= 1 && x.Player < 2 && len(x.Pieces) <= api.MaxCards
	ok = ok && min(x.Life[0], x.Life[1]) >= 0 && max(x.Life[0], x.Life[1]) <= api.MaxLife
	if !ok {
		return false
	}
	type spot struct {
		has, zone uint8
		at        int
	}
	spots := map[spot]int{}
	sizes := map[spot]int{}
	for _, p := range x.Pieces {
		spots[spot{p.Has, p.Zone, p.At}]++
		sizes[spot{p.Has, p.Zone, 0}]++
		isToken := p.Def == -1
		if !isToken && (p.Def < 0 || p.Def >= len(x.Kinds)) {
			return false
		}
		isUnit := isToken || x.Kinds[p.Def].Kind == api.Unit
		switch p.Zone {
		case api.Row:
			ok = ok && isUnit
		case api.Limbo:
			ok = ok && isUnit && !isToken
		case api.Back:
			ok = ok && !isUnit
		case api.Nowhere:
			ok = ok && isToken && p.Owner == p.Has && p.At == 0
		case api.Deck, api.Hand, api.Grave, api.Exile:
			ok = ok && !isToken && p.Owner == p.Has
		default:
			return false
		}
		ok = ok && p.Owner < 2 && p.Has < 2 && min(p.Attack, p.Guard) >= 0 && max(p.Attack, p.Guard) <= api.MaxNumber
	}
	for s, count := range spots {
		switch s.zone {
		case api.Row, api.Back:
			ok = ok && count == 1 && 0 <= s.at && s.at <= 4
		case api.Limbo:
			ok = ok && count == 1 && s.at == 0 && sizes[spot{1 - s.has, s.zone, 0}] == 0
		case api.Nowhere:
		default:
			ok = ok && count == 1 && 0 <= s.at && s.at < sizes[spot{s.has, s.zone, 0}]
		}
	}
	return ok
}

// P6.1: lives, the turn, the player, how many pieces, each at its edges.
func TestMayTable(t *testing.T) {
	for n, ok := range map[int]bool{0: true, 1: true, api.MaxLife: true, api.MaxLife + 1: false, -1: false, math.MinInt: false, math.MaxInt: false} {
		x := laid(t)
		x.Life[0] = n
		wantMay(t, "the first life", x, ok)
		x = laid(t)
		x.Life[1] = n
		wantMay(t, "the second life", x, ok)
	}
	for n, ok := range map[int]bool{1: true, 2: true, api.MaxTurns + 1: true, math.MaxInt: true, 0: false, -1: false, math.MinInt: false} {
		x := laid(t)
		x.Turn = n
		wantMay(t, "the turn", x, ok)
	}
	for n := range 256 {
		x := laid(t)
		x.Player = uint8(n)
		wantMay(t, "the player", x, n < 2)
	}
	for n := range api.MaxCards + 3 {
		x := laid(t)
		for len(x.Pieces) < n {
			x.Pieces = append(x.Pieces, api.Piece{Def: -1, Zone: api.Nowhere})
		}
		wantMay(t, "pieces", x, n <= api.MaxCards)
	}
	wantMay(t, "a zero table", api.Table{}, false)
	wantMay(t, "a table of nothing", api.Table{Turn: 1}, true)
}

// P6.1: nothing else is asked.
func TestMayElse(t *testing.T) {
	x := laid(t)
	for i := range x.Pieces {
		p := &x.Pieces[i]
		p.Up, p.Low, p.Struck, p.Turned = !p.Up, !p.Low, !p.Struck, !p.Turned
		p.Since, p.Used, p.Boost = math.MinInt, 255, math.MaxInt
	}
	x.Moment, x.Lost = math.MinInt, [2]bool{true, true}
	x.Events = []api.Event{{Ev: 255, Moment: -1, Piece: 99, Who: 9}}
	for i := range x.Kinds {
		x.Kinds[i] = api.Card{Kind: x.Kinds[i].Kind, Attack: -1, Level: -1, Effects: make([]api.Effect, 99)}
	}
	wantMay(t, "whatever else", x, true)
}

// P6.1: each piece with each of some wrong or right values in each field that is asked about.
func TestMayPieces(t *testing.T) {
	numbers := []int{math.MinInt, -2, -1, 0, 1, 2, 3, 4, 5, 6, 7, api.MaxCards - 1, api.MaxCards, api.MaxNumber, api.MaxNumber + 1, math.MaxInt}
	x := laid(t)
	may := 0
	for i := range x.Pieces {
		p := &x.Pieces[i]
		was := *p
		told := func(what string) {
			if board.May(x) != reading(x) {
				t.Errorf("May = %v, with %s of piece %d: %+v", board.May(x), what, i, *p)
			} else if reading(x) {
				may++
			}
			*p = was
		}
		for _, n := range numbers {
			p.Attack = n
			told("another attack")
			p.Guard = n
			told("another guard")
			p.At = n
			told("another place")
			p.Def = n
			told("another kind")
		}
		for n := range 256 {
			p.Owner = uint8(n)
			told("another owner")
			p.Has = uint8(n)
			told("another one who has it")
			p.Zone = uint8(n)
			told("another zone")
			p.Zone, p.At = uint8(n), 0
			told("another zone, at 0")
			p.Zone, p.At = uint8(n), 2
			told("another zone, at 2")
			p.Owner, p.Has = uint8(n), uint8(n)
			told("another player")
			p.Def, p.Zone, p.At = -1, uint8(n), 0
			told("a token")
		}
	}
	if may < 500 {
		t.Errorf("%d tables that may be", may)
	}
}

// P6.1: Limbo, of one piece alone, at 0, whoever has it.
func TestMayLimbo(t *testing.T) {
	x := begun(t, []int{ogre, ogre, net}, []int{ogre})
	for _, has := range []uint8{0, 1} {
		y := put(t, x, 1, api.Limbo, has, true, false)
		wantMay(t, "one", y, true)
		y.Pieces[1].At = 1
		wantMay(t, "one at 1", y, false)
		for _, other := range []uint8{0, 1} {
			for id, p := range x.Pieces {
				y = put(t, x, id, api.Exile, 0, true, false)
				y = put(t, y, 1, api.Limbo, has, true, false)
				y.Pieces[id] = api.Piece{Def: p.Def, Owner: p.Owner, Has: other, Zone: api.Limbo}
				wantMay(t, "two", y, id == 1)
				y.Pieces[id].At = 1
				wantMay(t, "two, at 0 and 1", y, false)
			}
		}
	}
}

// P6.1: tables that are changed by lot, against the second reading.
func TestMayByLot(t *testing.T) {
	lot := rand.New(rand.NewPCG(6, 1))
	var counts [2]int
	for range 40000 {
		x := laid(t)
		if lot.IntN(4) == 0 {
			x = put(t, x, []int{0, 2, 6, 10}[lot.IntN(4)], api.Limbo, uint8(lot.IntN(2)), true, false)
		}
		for range 1 + lot.IntN(3) {
			p := &x.Pieces[lot.IntN(len(x.Pieces))]
			switch lot.IntN(5) {
			case 0:
				p.At = lot.IntN(7) - 1
			case 1:
				p.Has = uint8(lot.IntN(2))
			case 2:
				p.Owner = uint8(lot.IntN(2))
			case 3:
				p.Zone, p.At = uint8(lot.IntN(8)), lot.IntN(3)
			case 4:
				p.Def = lot.IntN(8) - 1
			}
		}
		if lot.IntN(2) == 0 { // pieces that change places may be still
			i, j := lot.IntN(len(x.Pieces)), lot.IntN(len(x.Pieces))
			x.Pieces[i], x.Pieces[j] = x.Pieces[j], x.Pieces[i]
		}
		want := reading(x)
		if board.May(x) != want {
			t.Fatalf("May = %v of %+v", !want, x.Pieces)
		}
		if want {
			counts[1]++
		} else {
			counts[0]++
		}
	}
	if min(counts[0], counts[1]) < 1000 {
		t.Errorf("%d tables that may not be, %d that may be", counts[0], counts[1])
	}
}
