package idle_test

import (
	"math/rand/v2"
	"slices"
	"testing"

	"joust/api"
	"joust/board"
	"joust/can"
	"joust/idle"
)

// lots draws tables.
type lots struct{ *rand.Rand }

func (l lots) yes(of int) bool { return l.IntN(of) == 0 }

// table is one on which pieces were put as they may be, most of them in hands and Rows.
func (l lots) table(t *testing.T) api.Table {
	t.Helper()
	var decks [2][]int
	for who := range decks {
		for range 4 + l.IntN(16) {
			decks[who] = append(decks[who], l.IntN(kinds))
		}
	}
	x, e := board.New(pool(), decks)
	if e != api.OK {
		t.Fatal(e)
	}
	x.Turn, x.Player = 1+l.IntN(4), uint8(l.IntN(2))
	zones := []uint8{api.Hand, api.Hand, api.Hand, api.Grave, api.Row, api.Row, api.Row, api.Back, api.Back, api.Exile}
	if l.yes(4) {
		zones = append(zones, api.Limbo)
	}
	for range 12 + l.IntN(40) {
		who := uint8(l.IntN(2))
		if l.yes(12) {
			x, _, _ = board.Token(x, who, 5)
		}
		id := l.IntN(len(x.Pieces))
		if !l.yes(4) {
			who = x.Pieces[id].Owner
		}
		x, _ = board.Put(x, id, zones[l.IntN(len(zones))], who, !l.yes(3), l.yes(3))
		p := &x.Pieces[id]
		p.Since, p.Struck, p.Turned, p.Used = l.IntN(x.Turn+1), l.yes(6), l.yes(6), uint8(l.IntN(8)*l.IntN(2))
	}
	if !board.May(x) {
		t.Fatalf("no table may be so: %+v", x.Pieces)
	}
	return x
}

// lying are the pieces of a second reading, by places: of whom, where.
func lying(x api.Table, who, zone uint8) []int {
	at := map[int]int{}
	for id, p := range x.Pieces {
		if p.Has == who && p.Zone == zone {
			at[p.At] = id
		}
	}
	var l []int
	for place := range api.MaxCards {
		if id, ok := at[place]; ok {
			l = append(l, id)
		}
	}
	return l
}

// options is a second reading: what may be done with each card, from the last section to the first.
func options(x api.Table, summoned, second bool) []api.Option {
	who := x.Player
	inHand, inRow := lying(x, who, api.Hand), lying(x, who, api.Row)
	l := []api.Option{end}
	ahead := func(more []api.Option) { l = append(more, l...) }
	if x.Turn != 1 && !second {
		ahead([]api.Option{battle})
	}
	for _, id := range slices.Backward(inRow) {
		if p := x.Pieces[id]; !(p.Since >= x.Turn || p.Struck || p.Turned) {
			ahead([]api.Option{turn(id)})
		}
	}
	for _, r := range slices.Backward(can.All(x, who, api.Window{Main: true})) {
		ahead([]api.Option{play(r.Piece, r.Effect)})
	}
	for _, id := range slices.Backward(inHand) {
		if x.Kinds[x.Pieces[id].Def].Kind != api.Unit && len(lying(x, who, api.Back)) < api.Slots {
			ahead([]api.Option{lay(id)})
		}
	}
	for _, id := range slices.Backward(inHand) {
		c := x.Kinds[x.Pieces[id].Def]
		if c.Kind != api.Unit || summoned {
			continue
		}
		if c.Level < 5 && len(inRow) < api.Slots {
			ahead(summon(id, -1))
		}
		for _, given := range slices.Backward(inRow) {
			if c.Level >= 5 {
				ahead(summon(id, given))
			}
		}
	}
	return l
}

// goes is a second reading of a move: the places of those behind it, and where it lies then.
func goes(x *api.Table, id int, zone, who uint8, up, low bool) {
	was := x.Pieces[id]
	if zone == api.Limbo && len(lying(*x, 0, zone))+len(lying(*x, 1, zone)) > 0 {
		return
	}
	if zone == api.Grave {
		who = was.Owner
		if was.Def < 0 {
			zone, up = api.Nowhere, false
		}
	}
	x.Pieces[id].Zone = 99
	if was.Zone == api.Hand {
		for i, p := range x.Pieces {
			if p.Zone == api.Hand && p.Has == was.Has && p.At > was.At {
				x.Pieces[i].At--
			}
		}
	}
	at := 0
	if zone != api.Nowhere {
		for slices.ContainsFunc(lying(*x, who, zone), func(id int) bool { return x.Pieces[id].At == at }) {
			at++
		}
	}
	x.Pieces[id] = api.Piece{Def: was.Def, Attack: was.Attack, Guard: was.Guard, Owner: was.Owner, Has: who, Zone: zone, At: at, Up: up, Low: low, Since: x.Turn}
}

// done is a second reading of what an option does.
func done(x api.Table, o api.Option) api.Table {
	x = board.Copy(x)
	if o.Arg >= 0 {
		goes(&x, o.Arg, api.Grave, x.Player, true, false)
	}
	p := &x.Pieces[o.Piece]
	switch o.Do {
	case api.OpSummon:
		goes(&x, o.Piece, api.Limbo, x.Player, true, false)
	case api.OpSet:
		goes(&x, o.Piece, api.Row, x.Player, false, true)
	case api.OpLay:
		goes(&x, o.Piece, api.Back, x.Player, false, false)
	case api.OpTurn:
		p.Turned = true
		if p.Up {
			p.Low = !p.Low
		} else {
			p.Up, p.Low = true, false
		}
	}
	return x
}

// P16.1: both calls, by lot, against the second reading; no two options are alike, and each one that Do does can be done.
func TestLots(t *testing.T) {
	lot := lots{rand.New(rand.NewPCG(16, 1))}
	seen := map[string]int{}
	names := []string{api.OpSummon: "summon", api.OpSet: "set", api.OpLay: "lay", api.OpPlay: "play", api.OpTurn: "turn", api.OpBattle: "battle", api.OpEnd: "end"}
	for range 3000 {
		x := lot.table(t)
		for _, summoned := range []bool{false, true} {
			for _, second := range []bool{false, true} {
				want := options(x, summoned, second)
				if l := idle.Options(x, summoned, second); !slices.Equal(l, want) {
					t.Fatalf("Options(%v, %v) = %v; not %v, of %+v", summoned, second, l, want, x.Pieces)
				}
			}
		}
		may := options(x, false, false)
		for i, o := range may {
			if slices.Contains(may[:i], o) {
				t.Fatalf("%v twice, of %+v", o, x.Pieces)
			}
			seen[names[o.Do]]++
			if o.Do >= api.OpSummon && o.Do <= api.OpLay || o.Do == api.OpTurn {
				y, e := idle.Do(x, o)
				if e != api.OK || !board.Same(y, done(x, o)) || !board.May(y) {
					t.Fatalf("Do(%v) = %+v, %v, of %+v", o, y.Pieces, e, x.Pieces)
				}
				if o.Do <= api.OpSet && o.Arg >= 0 {
					seen["given up"]++
				}
			}
			for _, near := range []api.Option{option(o.Do, o.Piece+1, o.Arg), option(o.Do, o.Piece, o.Arg+1), option(o.Do+1, o.Piece, o.Arg)} {
				if !slices.Contains(may, near) {
					refused(t, x, near)
					seen["refused"]++
				}
			}
		}
	}
	for _, what := range append(names, "given up", "refused") {
		if what != "" && seen[what] < 1000 {
			t.Errorf("%s: %d", what, seen[what])
		}
	}
}
