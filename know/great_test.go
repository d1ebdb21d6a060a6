package know_test

import (
	"math"
	"math/big"
	"slices"
	"testing"
	"time"

	"joust/api"
	"joust/board"
	"joust/duel"
	"joust/know"
	"joust/view"
)

// most is the greatest number that is told.
const most = 1 << 62

// unlike are so many kinds, units and others by turns.
func unlike(count int) []api.Card {
	l := make([]api.Card, count)
	for i := range l {
		l[i] = api.Card{Name: "k", Kind: uint8(i % 2), Attack: i % (api.MaxNumber + 1)}
	}
	return l
}

// rising is 0 to n - 1.
func rising(n int) (l []int) {
	for i := range n {
		l = append(l, i)
	}
	return l
}

// decked is a duel of which nothing is told but how many of each kind lie in each deck, rising.
func decked(t *testing.T, counts ...[]int) api.Duel {
	t.Helper()
	d := api.Duel{Table: api.Table{Turn: 1}}
	for owner, l := range counts {
		d.Table.Kinds = unlike(max(len(l), len(d.Table.Kinds)))
		at := 0
		for def, n := range l {
			for range n {
				d.Table.Pieces = append(d.Table.Pieces, api.Piece{Def: def, Attack: def, Owner: uint8(owner), Has: uint8(owner), At: at})
				at++
			}
		}
	}
	if !board.May(d.Table) {
		t.Fatalf("%v may not be", counts)
	}
	return d
}

// next is the arrangement behind that of a duel whose pieces are all in decks, and the only owner's.
func next(t *testing.T, d api.Duel) api.Duel {
	t.Helper()
	d = duel.Copy(d)
	l := d.Table.Pieces
	i := len(l) - 2
	for l[i].Def >= l[i+1].Def {
		i--
	}
	j := len(l) - 1
	for l[j].Def <= l[i].Def {
		j--
	}
	change := func(i, j int) {
		l[i].Def, l[j].Def = l[j].Def, l[i].Def
		l[i].Attack, l[j].Attack = l[j].Attack, l[i].Attack
	}
	change(i, j)
	for i, j = i+1, len(l)-1; i < j; i, j = i+1, j-1 {
		change(i, j)
	}
	return d
}

// P26.1: up to 2^62 ways are told.
func TestGreatWays(t *testing.T) {
	most, edges := big.NewInt(most), [2]int{}
	for units := 1; units <= 70; units++ {
		for others := units; units+others <= 120; others++ {
			want := new(big.Int).Binomial(int64(units+others), int64(units))
			if bits := want.BitLen(); bits < 61 || bits > 66 {
				continue
			}
			d := decked(t, []int{units, others})
			n, is := know.Ways(d, 0)
			told(t, "Ways", n, is, want)
			edges[min(want.Cmp(most)+1, 1)]++
			n, is = know.Ways(decked(t, nil, []int{units, others, 1}), 1)
			told(t, "Ways", n, is, want.Mul(want, big.NewInt(int64(units+others+1))))
		}
	}
	if edges[0] < 20 || edges[1] < 20 {
		t.Errorf("up to 2^62 and above: %v", edges)
	}
	for ones := 2; ones < 40; ones++ { // 20! is below 2^62, 21! above
		want := new(big.Int).MulRange(1, int64(ones))
		d := decked(t, slices.Repeat([]int{1}, ones))
		n, is := know.Ways(d, 1)
		told(t, "Ways", n, is, want)
		d = decked(t, slices.Repeat([]int{1}, ones), []int{30, 2})
		n, is = know.Ways(d, 1)
		told(t, "Ways", n, is, want.Mul(want, big.NewInt(496)))
	}
}

// P26.2: Rank is told up to 2^62, Deal answers up to there, of very many ways.
func TestGreatRanks(t *testing.T) {
	for _, l := range [][]int{slices.Repeat([]int{1}, 21), slices.Repeat([]int{1}, 40), slices.Repeat([]int{1}, api.MaxCards), {40, 40}, {72, 72}, slices.Repeat([]int{2}, 70), {1, 100, 1, 20, 20}} {
		d, ids := decked(t, l), []int(nil)
		ranks(t, d, 0, 0, api.OK)
		for id := range d.Table.Pieces {
			ids = append(ids, id)
		}
		for _, n := range []uint64{1, 2, 3, 1000, 1 << 32, most - 2, most - 1} {
			x := deals(t, d, 1, n)
			ranks(t, x, 1, n, api.OK)
			if k := rank(x.Table, ids); !k.IsUint64() || k.Uint64() != n {
				t.Errorf("Deal(%d) is arrangement %v", n, k)
			}
			ranks(t, next(t, x), 1, n+1, api.OK)
		}
		last := deals(t, d, 0, most)
		ranks(t, last, 0, most, api.OK)
		ranks(t, next(t, last), 0, 0, api.ErrLimit)
		ranks(t, next(t, next(t, last)), 0, 0, api.ErrLimit)
		refuses(t, d, 0, most+1, api.ErrNone)
		refuses(t, d, 0, math.MaxUint64, api.ErrNone)
		slices.Reverse(d.Table.Pieces)
		for id := range d.Table.Pieces {
			d.Table.Pieces[id].At = id
		}
		ranks(t, d, 0, 0, api.ErrLimit)
	}
}

// P26.2: those of both players count together: the first owner's tell ahead of the second one's.
func TestBothOwners(t *testing.T) {
	ones := slices.Repeat([]int{1}, 12) // 12! ways each
	d := decked(t, ones, ones)
	const each = 479001600
	counts(t, d, 0, each*each, true)
	refuses(t, d, 0, each*each, api.ErrNone)
	x := deals(t, d, 0, each*each-1)
	for id, p := range x.Table.Pieces {
		if p.Def != 11-id%12 {
			t.Fatalf("the last one: %v", x.Table.Pieces)
		}
	}
	x = deals(t, d, 0, 5*each+7)
	ranks(t, x, 0, 5*each+7, api.OK)
	same(t, "0's", defs(x, rising(12))[8:], []int{8, 11, 10, 9})
	many := decked(t, ones, slices.Repeat([]int{1}, 22))
	if _, is := know.Ways(many, 0); is {
		t.Error("Ways of very many")
	}
	same(t, "0's, ahead of very many", defs(deals(t, many, 0, most), rising(12)), rising(12))
	ranks(t, deals(t, many, 0, most), 0, most, api.OK)
	p := many.Table.Pieces
	p[10].Def, p[11].Def, p[10].Attack, p[11].Attack = 11, 10, 11, 10
	ranks(t, many, 0, 0, api.ErrLimit)
}

// P26.3: chances among very many arrangements are told as they are.
func TestGreatChance(t *testing.T) {
	d := decked(t, slices.Repeat([]int{1}, api.MaxCards))
	for kind := range api.MaxCards {
		chance(t, d, 0, 99, kind, 1, api.MaxCards)
	}
	d = decked(t, []int{70, 72, 2})
	chance(t, d, 0, 0, 0, 35, 72)
	chance(t, d, 0, 143, 1, 1, 2)
	chance(t, d, 1, 7, 2, 1, 72)
	for id := range 5 { // five are units for sure
		x := &d.Table.Pieces[id]
		x.Zone, x.Has = api.Row, 1
	}
	for id := 5; id < api.MaxCards; id++ {
		d.Table.Pieces[id].At -= 5
	}
	for id := 70; id < 75; id++ {
		x := &d.Table.Pieces[id]
		x.Zone, x.Has, x.At = api.Back, 1, id-70
	}
	for id := 75; id < api.MaxCards; id++ {
		d.Table.Pieces[id].At -= 5
	}
	chance(t, d, 0, 0, 0, 35, 36)
	chance(t, d, 0, 0, 2, 1, 36)
	chance(t, d, 0, 0, 1, 0, 1)
	chance(t, d, 0, 70, 1, 1, 1)
	chance(t, d, 0, 20, 0, 35, 72)
	chance(t, d, 0, 20, 1, 1, 2)
	h := holds(d.Table, know.Hidden(d, 0))
	chances(t, d, 0, 0, h)
	chances(t, d, 0, 70, h)
	chances(t, d, 0, 20, h)
}

// Rule 1, P0.7: as many pieces as there may be, and very many kinds, end soon.
func TestSoon(t *testing.T) {
	start := time.Now()
	d := decked(t, slices.Repeat([]int{1}, api.MaxCards))
	d.Table.Kinds = unlike(200000)
	for id := range d.Table.Pieces {
		p := &d.Table.Pieces[id]
		p.Def = 1000 * id
		p.Attack = d.Table.Kinds[p.Def].Attack
	}
	for n := range uint64(20) {
		x := deals(t, d, 0, most-n)
		ranks(t, x, 0, most-n, api.OK)
		if !view.Same(view.Of(x, 0), view.Of(d, 0)) {
			t.Errorf("Deal(%d) shows something else", most-n)
		}
		know.Ways(x, 1)
		chance(t, x, 1, int(n), 5000, 1, api.MaxCards)
	}
	if r := know.Rest(d, 0); len(r[0]) != 200000 || len(r[1]) != 200000 || r[0][143000] != 1 || r[1][143000] != 0 {
		t.Errorf("Rest: %d, %d", len(r[0]), len(r[1]))
	}
	if d := time.Since(start); d > time.Minute {
		t.Errorf("it took %v", d)
	}
}
