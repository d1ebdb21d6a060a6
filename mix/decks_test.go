package mix_test

import (
	"slices"
	"testing"

	"joust/api"
	"joust/board"
	"joust/duel"
	"joust/know"
	"joust/mix"
)

// begun is a duel with decks of so many cards, each of a kind of its own, in order.
func begun(t *testing.T, sizes [2]int) api.Duel {
	t.Helper()
	var kinds []api.Card
	var decks [2][]int
	for who, n := range sizes {
		for range n {
			decks[who] = append(decks[who], len(kinds))
			kinds = append(kinds, api.Card{Kind: api.Unit, Level: 4})
		}
	}
	d, e := duel.Begin(kinds, decks)
	if e != api.OK {
		t.Fatalf("Begin of %d: %d", sizes, e)
	}
	return d
}

// decided is a duel behind a script.
func decided(t *testing.T, d api.Duel, script []int) api.Duel {
	t.Helper()
	for i, n := range script {
		if d.Stage != api.AtLot {
			t.Fatalf("the lot %d of %d comes at the stage %d", i, len(script), d.Stage)
		}
		next, e := duel.Decide(d, n)
		if e != api.OK {
			t.Fatalf("the lot %d of %d, which is %d: %d", i, len(script), n, e)
		}
		d = next
	}
	return d
}

// lies is how a player's cards lie, those that were drawn first.
func lies(d api.Duel, who uint8) []int {
	return slices.Concat(board.In(d.Table, who, api.Hand), board.In(d.Table, who, api.Deck))
}

// piecesOf are the pieces of a deck in an order; the deck's first piece is told.
func piecesOf(t *testing.T, seed uint64, n, first int) []int {
	t.Helper()
	order, e := mix.Order(seed, n)
	if e != api.OK {
		t.Fatalf("Order(%d, %d): %d", seed, n, e)
	}
	for i := range order {
		order[i] += first
	}
	return order
}

// P27.3, P0.7: two decks lie by the orders of their seeds: the first one as soon as its own lots are decided, both behind the script.
func TestDecksLie(t *testing.T) {
	all := [][2]int{{1, 1}, {2, 7}, {7, 2}, {5, 5}, {6, 6}, {5, api.MaxDeck}, {api.MaxDeck, 5}, {api.MaxDeck, api.MaxDeck}, {17, 23}, {31, 8}}
	for i, sizes := range all {
		for seed := range uint64(8) {
			seed := mix.Mix(seed + uint64(i)<<8)
			script, e := mix.Script(seed, sizes)
			if len(script) != sizes[0]+sizes[1] || e != api.OK {
				t.Fatalf("Script(%d, %d) = %v, %d", seed, sizes, script, e)
			}
			want := [2][]int{piecesOf(t, seed, sizes[0], 0), piecesOf(t, mix.Mix(seed), sizes[1], sizes[0])}
			d := decided(t, begun(t, sizes), script[:sizes[0]])
			if got := board.In(d.Table, 0, api.Deck); d.Whose != 1 || !slices.Equal(got, want[0]) {
				t.Errorf("the first deck of %d by %d lies as %v, not %v", sizes, seed, got, want[0])
			}
			d = decided(t, d, script[sizes[0]:])
			if got := [2][]int{lies(d, 0), lies(d, 1)}; d.Stage == api.AtLot || !slices.Equal(got[0], want[0]) || !slices.Equal(got[1], want[1]) {
				t.Errorf("decks of %d by %d lie as %v, not %v", sizes, seed, got, want)
			}
			if hand := board.In(d.Table, 0, api.Hand); len(hand) != min(api.FirstHand, sizes[0]) {
				t.Errorf("%d of %d were drawn", len(hand), sizes[0])
			}
		}
	}
}

// even tells whether so many draws come to each of some counts about as often.
func even(counts []int, draws int) bool {
	each := draws / len(counts)
	return slices.Min(counts) > each/2 && slices.Max(counts) < each*3/2
}

// P0.7: with the one's secret as it is, the other one's brings each of all orders of five about as often, in both decks: neither chooses alone.
func TestFairLots(t *testing.T) {
	for mine := range 2 {
		counts := [2][]int{make([]int, 120), make([]int, 120)}
		for n := range uint64(12000) {
			secrets := [2]uint64{77, 77}
			secrets[1-mine] = 1000 + n
			script, e := mix.Script(seedOf(t, secrets), [2]int{5, 5})
			if e != api.OK {
				t.Fatalf("Script: %d", e)
			}
			for who := range counts {
				counts[who][place(script[who*5:][:5])]++
			}
		}
		for who := range counts {
			if !even(counts[who], 12000) {
				t.Errorf("with the secret of %d as it is, orders of the deck of %d come so often: %v", mine, who, counts[who])
			}
		}
	}
}

// seedOf is the seed of two secrets to which both committed.
func seedOf(t *testing.T, secrets [2]uint64) uint64 {
	t.Helper()
	seed, e := mix.Seed(committed(secrets), secrets)
	if e != api.OK {
		t.Fatalf("Seed of %d: %d", secrets, e)
	}
	return seed
}

// place tells which one of all lots some are.
func place(lots []int) (n int) {
	for i, lot := range lots {
		n = n*(len(lots)-i) + lot
	}
	return n
}

// P0.7: a card that the other one doesn't know, wherever it lies, is of each kind as often by lots as know tells the chance of it; and know tells the duel as it is among those that may be.
func TestHiddenAsItLies(t *testing.T) {
	const games = 2800
	kinds := []api.Card{{Kind: api.Unit, Level: 4}, {Kind: api.Spell}, {Kind: api.Trap}}
	deck := []int{0, 1, 0, 2, 1, 0, 0}
	before, e := duel.Begin(kinds, [2][]int{deck, deck})
	if e != api.OK {
		t.Fatalf("Begin: %d", e)
	}
	var counts [2][7][3]int
	for n := range uint64(games) {
		script, _ := mix.Script(seedOf(t, [2]uint64{1 + n, 5000 + n}), [2]int{7, 7})
		d := decided(t, before, script)
		for owner := range uint8(2) {
			who := 1 - owner
			for at, id := range lies(d, owner) {
				counts[owner][at][d.Table.Pieces[id].Def]++
				for def, of := range []uint64{4, 2, 1} {
					if odds, ok := know.Chance(d, who, id, def); odds != (api.Odds{Num: of, Den: 7}) || !ok {
						t.Fatalf("the chance of the kind %d at %d: %v, %v", def, at, odds, ok)
					}
				}
			}
			rank, e := know.Rank(d, who)
			dealt, f := know.Deal(d, who, rank)
			if !duel.Same(dealt, d) || e != api.OK || f != api.OK {
				t.Fatalf("the duel of the rank %d is another one: %d, %d", rank, e, f)
			}
		}
	}
	for owner := range counts {
		for at, count := range counts[owner] {
			for def, of := range []int{4, 2, 1} {
				if want := games * of / 7; count[def] < want*7/8 || count[def] > want*9/8 {
					t.Errorf("at %d of the deck of %d the kind %d lay %d times, not about %d times", at, owner, def, count[def], want)
				}
			}
		}
	}
}

// P0.7: the numbers below six that one draws come about as often, of seeds behind each other and of draws behind each other.
func TestFairNumbers(t *testing.T) {
	var bySeed, byDraw [6]int
	at := uint64(0)
	for seed := range uint64(12000) {
		value, _, _ := mix.Below(seed, 0, 6)
		bySeed[value]++
		value, at, _ = mix.Below(6, at, 6)
		byDraw[value]++
	}
	if !even(bySeed[:], 12000) || !even(byDraw[:], 12000) {
		t.Errorf("numbers below 6: %v by seeds, %v by draws", bySeed, byDraw)
	}
}
