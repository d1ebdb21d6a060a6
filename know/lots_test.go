package know_test

import (
	"math/big"
	"math/rand/v2"
	"slices"
	"testing"

	"joust/api"
	"joust/board"
	"joust/duel"
	"joust/know"
	"joust/view"
)

// lots draws tables, and decisions.
type lots struct{ *rand.Rand }

func (l lots) yes(of int) bool { return l.IntN(of) == 0 }

// hidden is a second reading of what a player does not know.
func hidden(t api.Table, who uint8) (l []int) {
	for _, owner := range []uint8{0, 1} {
		for id, p := range t.Pieces {
			known := p.Def == -1 || p.Up && p.Zone >= api.Row || p.Has == who && p.Zone >= api.Hand && p.Zone <= api.Back
			if p.Owner == owner && !known {
				l = append(l, id)
			}
		}
	}
	return l
}

// isUnit tells whether a kind is a unit's.
func isUnit(t api.Table, def int) bool { return t.Kinds[def].Kind == api.Unit }

// counted is how many of each kind of each owner some pieces have.
func counted(t api.Table, ids, kinds []int) map[[2]int]int {
	count := map[[2]int]int{}
	for i, id := range ids {
		count[[2]int{int(t.Pieces[id].Owner), kinds[i]}]++
	}
	return count
}

// arrangements is a second reading of what may be hidden: all kinds are given to all pieces, in order, and those that may not be left out at the end.
func arrangements(t api.Table, ids []int) (all [][]int) {
	var own []int
	for _, id := range ids {
		own = append(own, t.Pieces[id].Def)
	}
	want := counted(t, ids, own)
	given := make([]int, len(ids))
	var give func(i int)
	give = func(i int) {
		if i < len(ids) {
			for given[i] = range t.Kinds {
				give(i + 1)
			}
			return
		}
		for i, id := range ids {
			if zone, unit := t.Pieces[id].Zone, isUnit(t, given[i]); zone == api.Row && !unit || zone == api.Back && unit {
				return
			}
		}
		is := counted(t, ids, given)
		for key, n := range want {
			if is[key] != n {
				return
			}
		}
		all = append(all, slices.Clone(given))
	}
	give(0)
	return all
}

// table is a small one by lot, and a player.
func (l lots) table(t *testing.T, kinds []api.Card) (api.Duel, uint8) {
	t.Helper()
	who := uint8(l.IntN(2))
	var decks [2][]int
	for owner := range decks {
		for range 1 + l.IntN(9) {
			decks[owner] = append(decks[owner], l.IntN(len(kinds)))
		}
	}
	d := begun(t, kinds, decks[0], decks[1])
	for range l.IntN(3) {
		token(t, &d, uint8(l.IntN(2)))
	}
	for id := range d.Table.Pieces {
		zone := uint8(api.Row + l.IntN(4))
		if zone == api.Exile && l.yes(2) {
			zone = api.Hand
		}
		if !l.yes(4) {
			if x, e := board.Put(d.Table, id, zone, uint8(l.IntN(2)), l.yes(3), l.yes(2)); e == api.OK {
				d.Table = x
			}
		}
	}
	for id := range d.Table.Pieces {
		if p := &d.Table.Pieces[id]; (p.Zone == api.Grave || p.Zone == api.Exile) && l.yes(4) {
			p.Up = false
		}
	}
	for i := 0; len(hidden(d.Table, who)) > 6; i++ { // no more than can be gone through
		d.Table, _ = board.Put(d.Table, i, api.Grave, 0, true, false)
	}
	return d, who
}

// P26.1 to P26.4: small tables by lot, against all that may be hidden, gone through.
func TestTablesByLot(t *testing.T) {
	lot, kinds := lots{rand.New(rand.NewPCG(26, 1))}, pool(t, poolText)
	met := map[string]int{}
	for range 4000 {
		d, who := lot.table(t, kinds[:2+lot.IntN(3)])
		ids, v := hidden(d.Table, who), view.Of(d, who)
		all := arrangements(d.Table, ids)
		same(t, "Hidden", know.Hidden(d, who), ids)
		counts(t, d, who, uint64(len(all)), true)
		ranks(t, d, who, uint64(slices.IndexFunc(all, func(l []int) bool { return slices.Equal(l, defs(d, ids)) })), api.OK)
		refuses(t, d, who, uint64(len(all)), api.ErrNone)
		for n, want := range all {
			x := deals(t, d, who, uint64(n))
			same(t, "Deal", defs(x, ids), want)
			ranks(t, x, who, uint64(n), api.OK)
			if !board.May(x.Table) || !view.Same(view.Of(x, who), v) {
				t.Errorf("Deal(%d) shows %+v\nnot %+v", n, view.Of(x, who), v)
			}
		}
		r := know.Rest(d, who)
		for i, id := range ids {
			p := d.Table.Pieces[id]
			met[[]string{"deck", "hand", "row", "back", "grave", "exile"}[p.Zone]]++
			if p.Owner != p.Has {
				met["other's"]++
			}
			for kind := range d.Table.Kinds {
				n := 0
				for _, l := range all {
					if l[i] == kind {
						n++
					}
				}
				o := big.NewRat(int64(n), int64(len(all)))
				chance(t, d, who, id, kind, o.Num().Uint64(), o.Denom().Uint64())
			}
		}
		for key, n := range counted(d.Table, ids, defs(d, ids)) {
			if r[key[0]][key[1]] != n {
				t.Errorf("Rest = %v, not %d at %v", r, n, key)
			}
		}
		if t.Failed() {
			t.Fatalf("%d, of %+v", who, d.Table)
		}
		if len(all) > 20 {
			met["many"]++
		}
	}
	for what, least := range map[string]int{"deck": 1000, "hand": 300, "row": 300, "back": 300, "grave": 100, "exile": 100, "other's": 100, "many": 200} {
		if met[what] < least {
			t.Errorf("%s: %d", what, met[what])
		}
	}
}

// room is how many places of an owner are free: units' in Row, others' in Back, either's.
type room struct{ row, back, either int }

// ways is a second reading of how many there are, by great numbers: kind by kind, over what is free then.
func ways(t api.Table, count []int, free room) *big.Int {
	now := map[room]*big.Int{free: big.NewInt(1)}
	for def, n := range count {
		next := map[room]*big.Int{}
		for r, ways := range now {
			for either := 0; either <= min(n, r.either); either++ {
				left, only := room{r.row, r.back, r.either - either}, &r.back
				to := &left.back
				if isUnit(t, def) {
					only, to = &r.row, &left.row
				}
				if n-either > *only {
					continue
				}
				*to -= n - either
				more := new(big.Int).Mul(new(big.Int).Binomial(int64(r.either), int64(either)), new(big.Int).Binomial(int64(*only), int64(n-either)))
				if next[left] == nil {
					next[left] = new(big.Int)
				}
				next[left].Add(next[left], more.Mul(more, ways))
			}
		}
		now = next
	}
	if all := now[room{}]; all != nil {
		return all
	}
	return new(big.Int)
}

// held is what some pieces of each owner have, kind by kind, and where they are.
type held struct {
	t     api.Table
	count [2][]int
	free  [2]room
}

func holds(t api.Table, ids []int) held {
	h := held{t: t, count: [2][]int{make([]int, len(t.Kinds)), make([]int, len(t.Kinds))}}
	for _, id := range ids {
		h.add(id, t.Pieces[id].Def, 1)
	}
	return h
}

// add puts a piece of a kind to them, or takes it away.
func (h *held) add(id, def, n int) {
	p := h.t.Pieces[id]
	h.count[p.Owner][def] += n
	switch r := &h.free[p.Owner]; p.Zone {
	case api.Row:
		r.row += n
	case api.Back:
		r.back += n
	default:
		r.either += n
	}
}

// with is how many ways there are, if a piece has some kind; if that may be.
func (h *held) with(id, def int) *big.Int {
	p := h.t.Pieces[id]
	if h.count[p.Owner][def] == 0 || p.Zone == api.Row && !isUnit(h.t, def) || p.Zone == api.Back && isUnit(h.t, def) {
		return new(big.Int)
	}
	h.add(id, def, -1)
	defer h.add(id, def, 1)
	return h.ways()
}

func (h *held) ways() *big.Int {
	return new(big.Int).Mul(ways(h.t, h.count[0], h.free[0]), ways(h.t, h.count[1], h.free[1]))
}

// rank is a second reading of which arrangement pieces have.
func rank(t api.Table, ids []int) *big.Int {
	h, n := holds(t, ids), new(big.Int)
	for _, id := range ids {
		for def := range t.Pieces[id].Def {
			n.Add(n, h.with(id, def))
		}
		h.add(id, t.Pieces[id].Def, -1)
	}
	return n
}

// told asks for a number that is told up to 2^62 alone.
func told(t *testing.T, what string, is uint64, ok bool, want *big.Int) {
	t.Helper()
	may := want.Cmp(big.NewInt(1<<62)) <= 0
	if ok != may || may && is != want.Uint64() || !may && is != 0 {
		t.Errorf("%s = %d, %v, not %v", what, is, ok, want)
	}
}

// chances holds those of a piece against how many ways there are; they come to 1.
func chances(t *testing.T, d api.Duel, who uint8, id int, h held) {
	t.Helper()
	sum, all := new(big.Rat), h.ways()
	for kind := range d.Table.Kinds {
		o, is := know.Chance(d, who, id, kind)
		want := new(big.Rat).SetFrac(h.with(id, kind), all)
		if !is || o.Num != want.Num().Uint64() || o.Den != want.Denom().Uint64() {
			t.Errorf("Chance(%d, %d) = %v, %v, not %v", id, kind, o, is, want)
		}
		sum.Add(sum, want)
	}
	if sum.Cmp(big.NewRat(1, 1)) != 0 {
		t.Errorf("chances of %d come to %v", id, sum)
	}
}

// watched holds what one player may think of a duel; it answers how many ways there are.
func (l lots) watched(t *testing.T, d api.Duel, who uint8) *big.Int {
	t.Helper()
	ids := hidden(d.Table, who)
	h := holds(d.Table, ids)
	all, own := h.ways(), rank(d.Table, ids)
	same(t, "Hidden", know.Hidden(d, who), ids)
	r := know.Rest(d, who)
	same(t, "Rest of 0", r[0], h.count[0])
	same(t, "Rest of 1", r[1], h.count[1])
	n, is := know.Ways(d, who)
	told(t, "Ways", n, is, all)
	n, e := know.Rank(d, who)
	told(t, "Rank", n, e == api.OK, own)
	if e != api.OK && e != api.ErrLimit {
		t.Errorf("Rank: %d", e)
	}
	if e == api.OK && !duel.Same(deals(t, d, who, n), d) {
		t.Errorf("Deal(%d) is not the duel", n)
	}
	most := uint64(1 << 62)
	if all.IsUint64() && all.Uint64() <= most {
		most = all.Uint64() - 1
	}
	refuses(t, d, who, most+1, api.ErrNone)
	for _, n := range []uint64{0, most, l.Uint64N(most + 1), l.Uint64N(min(most, 1<<20) + 1)} {
		x := deals(t, d, who, n)
		if k := rank(x.Table, ids); !k.IsUint64() || k.Uint64() != n {
			t.Errorf("Deal(%d) is arrangement %v", n, k)
		}
		ranks(t, x, who, n, api.OK)
		if !board.May(x.Table) || !view.Same(view.Of(x, who), view.Of(d, who)) {
			t.Errorf("Deal(%d) shows %+v\nnot %+v", n, view.Of(x, who), view.Of(d, who))
		}
	}
	if len(ids) > 0 {
		chances(t, d, who, ids[l.IntN(len(ids))], h)
	}
	return all
}

const duelText = `
unit ogre 4 1800 1000 { }
spell rain { play drops 1 : damage theirs 500 ; destroy theirs row all ; }
unit lord 6 2500 2000 { must upon summon self : destroy theirs back all ; if upon attack self : draw mine 1 ; }
trap rush { play upon summon any : token theirs 300 ; token mine 200 ; }
unit imp 3 1000 1900 { swift picks 1 any row unit : bounce ; when upon destroy any : token mine 400 ; }
quick gale { play picks 1 theirs back all : banish ; }
spell call { play picks 1 any grave unit : revive ; }
counter stop { play upon link theirs : negate ; }
counter bar { play upon try theirs : negate ; }
quick gust { play picks 1 any row all : bounce ; }
unit elf 2 500 500 { }
`

// P26.1 to P26.4, P0.5, P0.7: duels by lot, decision by decision, against the second reading.
func TestDuelsByLot(t *testing.T) {
	lot, kinds := lots{rand.New(rand.NewPCG(26, 2))}, pool(t, duelText)
	met := map[string]int{}
	for i := range 30 {
		var decks [2][]int
		for owner := range decks {
			for range 7 + lot.IntN(api.MaxDeck-6) {
				decks[owner] = append(decks[owner], lot.IntN(2+i%10))
			}
		}
		d := begun(t, kinds, decks[0], decks[1])
		for range 250 {
			options := len(duel.Ask(d).Options)
			if options == 0 {
				break
			}
			var e api.Errno
			if d, e = duel.Decide(d, lot.IntN(options)); e != api.OK {
				t.Fatal(e)
			}
			if d.Stage == api.AtLot && !lot.yes(20) || !lot.yes(4) {
				continue
			}
			who := uint8(lot.IntN(2))
			switch n := lot.watched(t, d, who); {
			case n.BitLen() > 63:
				met["very many"]++
			case n.BitLen() > 50:
				met["many"]++
			default:
				met["few"]++
			}
			for _, id := range hidden(d.Table, who) {
				p := d.Table.Pieces[id]
				met[[]string{"deck", "hand", "row", "back"}[p.Zone]]++
			}
			if t.Failed() {
				t.Fatalf("%d, of %+v", who, d.Table)
			}
		}
	}
	for what, least := range map[string]int{"very many": 100, "many": 30, "few": 100, "deck": 1000, "hand": 1000, "row": 100, "back": 100} {
		if met[what] < least {
			t.Errorf("%s: %d", what, met[what])
		}
	}
}
