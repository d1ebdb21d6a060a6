package act_test

import (
	"math"
	"slices"
	"testing"

	"joust/act"
	"joust/api"
	"joust/board"
)

// zones are where the pieces are.
func zones(x api.Table) []uint8 {
	var l []uint8
	for _, p := range x.Pieces {
		l = append(l, p.Zone)
	}
	return l
}

// wantWent holds where the pieces are against where they were, but for those that went; of these each is with its owner.
func wantWent(t *testing.T, what string, was, x api.Table, zone uint8, ids ...int) {
	t.Helper()
	want := zones(was)
	for _, id := range ids {
		want[id] = zone
		if was.Pieces[id].Def < 0 {
			want[id] = api.Nowhere
		}
		if p := x.Pieces[id]; p.Has != p.Owner || p.Since != was.Turn {
			t.Errorf("%s: piece %d is %+v", what, id, p)
		}
	}
	if l := zones(x); !slices.Equal(l, want) {
		t.Errorf("%s: zones are %v; not %v", what, l, want)
	}
}

// P10.1: what lies in Row and Back is destroyed, in order, and with it what happened of the one who had it; nothing else is.
func TestDestroy(t *testing.T) {
	was := spread(t)
	x, did := act.Do(was, 0, 0, api.Effect{}, all(api.StDestroy, api.Row, 0), nil)
	wantAct(t, "Row", was, x, did, true, event(api.EvDestroy, 4, 0), event(api.EvDestroy, 1, 0), event(api.EvDestroy, 0, 0), event(api.EvDestroy, 3, 1), event(api.EvDestroy, 2, 1), event(api.EvDestroy, 5, 1))
	wantWent(t, "Row", was, x, api.Grave, 4, 1, 0, 3, 2, 5)
	wantIn(t, "Row", x, 0, api.Grave, 9, 10, 8, 0)
	wantIn(t, "Row", x, 1, api.Grave, 11, 1, 3, 2)
	x, did = act.Do(was, 1, 0, api.Effect{}, all(api.StDestroy, api.Row, 0), nil)
	wantAct(t, "Row of 1", was, x, did, true, event(api.EvDestroy, 3, 1), event(api.EvDestroy, 2, 1), event(api.EvDestroy, 5, 1), event(api.EvDestroy, 4, 0), event(api.EvDestroy, 1, 0), event(api.EvDestroy, 0, 0))
	wantIn(t, "Row of 1", x, 1, api.Grave, 11, 3, 2, 1)
	x, did = act.Do(was, 1, 8, api.Effect{}, all(api.StDestroy, api.Back, 0), nil)
	wantAct(t, "Back", was, x, did, true, event(api.EvDestroy, 7, 1), event(api.EvDestroy, 6, 0))
	wantWent(t, "Back", was, x, api.Grave, 7, 6)
	for _, zone := range []uint8{api.Deck, api.Hand, api.Grave, api.Exile, api.Limbo, api.Nowhere, api.Nowhere + 1} {
		x, did = act.Do(was, 0, 0, api.Effect{}, all(api.StDestroy, zone, 0), nil)
		wantAct(t, "elsewhere", was, x, did, false)
	}
	picks := []int{5, 12, 3, 0, 1, 3}
	x, did = act.Do(was, 0, 0, picking(api.Row), api.Step{Do: api.StDestroy}, picks)
	wantAct(t, "picks", was, x, did, true, event(api.EvDestroy, 5, 1), event(api.EvDestroy, 3, 1), event(api.EvDestroy, 1, 0))
	wantWent(t, "picks", was, x, api.Grave, 5, 3, 1)
	wantIn(t, "picks", x, 1, api.Grave, 11, 3, 1)
	x, did = act.Do(was, 0, 0, api.Effect{Sel: picking(api.Row).Sel}, api.Step{Do: api.StDestroy}, picks)
	wantAct(t, "no picks", was, x, did, false)
}

// P10.1: what lies in Row, Back and Grave is banished, or bounced, to its owner; nothing else is, and nothing happened.
func TestBanishAndBounce(t *testing.T) {
	for do, to := range map[uint8]uint8{api.StBanish: api.Exile, api.StBounce: api.Hand} {
		was := spread(t)
		for zone, ids := range map[uint8][]int{api.Row: {4, 1, 0, 3, 2, 5}, api.Back: {6, 7}, api.Grave: {9, 10, 8, 11}} {
			x, did := act.Do(was, 0, 0, api.Effect{}, all(do, zone, 0), nil)
			wantAct(t, "all", was, x, did, true)
			wantWent(t, "all", was, x, to, ids...)
			ones, others := []int{12}, []int{13}
			if to == api.Exile {
				ones, others = []int{16}, []int{17}
			}
			for _, id := range ids {
				switch p := was.Pieces[id]; {
				case p.Def < 0:
				case p.Owner == 0:
					ones = append(ones, id)
				default:
					others = append(others, id)
				}
			}
			wantIn(t, "all", x, 0, to, ones...)
			wantIn(t, "all", x, 1, to, others...)
			for _, id := range append(ones, others...) {
				if x.Pieces[id].Up != (to == api.Exile) {
					t.Errorf("%d: piece %d is %+v", do, id, x.Pieces[id])
				}
			}
		}
		for _, zone := range []uint8{api.Deck, api.Hand, api.Exile, api.Limbo, api.Nowhere, api.Nowhere + 1} {
			x, did := act.Do(was, 0, 0, api.Effect{}, all(do, zone, 5), nil)
			wantAct(t, "elsewhere", was, x, did, false)
		}
		x, did := act.Do(was, 1, 0, picking(api.Grave), api.Step{Do: do}, []int{11, 8, 0, 8})
		wantAct(t, "picks", was, x, did, true)
		wantWent(t, "picks", was, x, to, 11, 8)
		wantIn(t, "picks", x, 0, api.Grave, 9, 10)
	}
}

// P10.1: the Boost of units that lie Up in Row is more, within its bounds; one that was to be changed was, however little that is.
func TestBoost(t *testing.T) {
	const most = api.MaxNumber
	for i, c := range []struct{ was, n, want int }{
		{0, 300, 300}, {300, 300, 600}, {0, -300, -300}, {300, -300, 0}, {most - 300, 300, most}, {most - 300, 301, most}, {most, 1, most}, {300 - most, -300, -most}, {300 - most, -301, -most}, {-most, -1, -most},
		{most, -2 * most, 0}, {-most, 2 * most, 0}, {2 * most, -most, most}, {2*most - 1, -most, most - 1}, {-2 * most, most, -most}, {1 - 2*most, most, 1 - most}, {3 * most, -1, most},
		{math.MaxInt, 1, most}, {math.MaxInt, math.MaxInt, most}, {math.MaxInt, -most, most}, {math.MinInt, -1, -most}, {math.MinInt, math.MinInt, -most}, {math.MinInt, most, -most}, {0, math.MaxInt, most}, {0, math.MinInt, -most},
	} {
		was := spread(t)
		for id := range was.Pieces {
			was.Pieces[id].Boost = c.was
		}
		x, did := act.Do(was, 0, 0, api.Effect{}, all(api.StBoost, api.Row, c.n), nil)
		wantAct(t, "boost", was, x, did, true)
		for id, p := range x.Pieces {
			want := was.Pieces[id]
			if want.Zone == api.Row && want.Up {
				want.Boost = c.want
			}
			if p != want {
				t.Errorf("%d: piece %d is %+v; not %+v", i, id, p, want)
			}
		}
	}
}

// P10.1: a boost by 0, of what is face down or elsewhere, or of nothing, does nothing.
func TestNoBoost(t *testing.T) {
	was := spread(t)
	was.Pieces[2].Boost = math.MaxInt
	x, did := act.Do(was, 0, 0, api.Effect{}, all(api.StBoost, api.Row, 0), nil)
	wantAct(t, "by 0", was, x, did, false)
	for _, zone := range []uint8{api.Deck, api.Hand, api.Back, api.Grave, api.Exile, api.Limbo, api.Nowhere} {
		x, did = act.Do(was, 0, 0, api.Effect{}, all(api.StBoost, zone, 300), nil)
		wantAct(t, "elsewhere", was, x, did, false)
	}
	x, did = act.Do(was, 0, 0, picking(api.Row), api.Step{Do: api.StBoost, N: num(-300)}, []int{3})
	wantAct(t, "face down", was, x, did, false)
	x, did = act.Do(was, 0, 0, picking(api.Row), api.Step{Do: api.StBoost, N: num(-300)}, []int{3, 5})
	wantAct(t, "one of two", was, x, did, true)
	if x.Pieces[5].Boost != -300 || x.Pieces[3].Boost != 0 {
		t.Errorf("%+v", x.Pieces)
	}
	x, did = act.Do(was, 0, 0, picking(api.Row), api.Step{Do: api.StBoost, N: num(300)}, nil)
	wantAct(t, "nothing", was, x, did, false)
}

// P10.1: units come from graves into the Row of who does it, Up, in order, as long as there is a free place.
func TestRevive(t *testing.T) {
	was := spread(t)
	x, did := act.Do(was, 0, 0, api.Effect{}, all(api.StRevive, api.Grave, 0), nil)
	wantAct(t, "to 0", was, x, did, true, event(api.EvSummon, 10, 0), event(api.EvSummon, 8, 0))
	wantIn(t, "to 0", x, 0, api.Row, 4, 1, 10, 0, 8)
	wantIn(t, "to 0", x, 0, api.Grave, 9)
	wantIn(t, "to 0", x, 1, api.Grave, 11)
	x, did = act.Do(was, 1, 0, api.Effect{}, all(api.StRevive, api.Grave, 0), nil)
	wantAct(t, "to 1", was, x, did, true, event(api.EvSummon, 11, 1), event(api.EvSummon, 10, 1))
	wantIn(t, "to 1", x, 1, api.Row, 3, 11, 2, 10, 5)
	wantIn(t, "to 1", x, 0, api.Grave, 9, 8)
	if want := (api.Piece{Def: lord, Attack: 1000, Has: 1, Zone: api.Row, At: 3, Up: true, Since: 3}); x.Pieces[10] != want {
		t.Errorf("to 1: %+v", x.Pieces[10])
	}
	y, did := act.Do(x, 1, 0, api.Effect{}, all(api.StRevive, api.Grave, 0), nil)
	wantAct(t, "without room", x, y, did, false)
	x, did = act.Do(was, 0, 0, picking(api.Grave), api.Step{Do: api.StRevive}, []int{9, 11, 0, 8, 11, 10})
	wantAct(t, "picks", was, x, did, true, event(api.EvSummon, 11, 0), event(api.EvSummon, 8, 0))
	wantIn(t, "picks", x, 0, api.Row, 4, 1, 11, 0, 8)
	x, did = act.Do(was, 0, 0, picking(api.Grave), api.Step{Do: api.StRevive}, []int{9})
	wantAct(t, "a trap", was, x, did, false)
	for _, zone := range []uint8{api.Deck, api.Hand, api.Row, api.Back, api.Exile, api.Limbo, api.Nowhere, api.Nowhere + 1} {
		x, did = act.Do(was, 0, 0, api.Effect{}, all(api.StRevive, zone, 0), nil)
		wantAct(t, "elsewhere", was, x, did, false)
	}
}

// P10.1: a step is about a card once, wherever its picks went.
func TestPicksThatWent(t *testing.T) {
	was := spread(t)
	x, _ := act.Do(was, 0, 12, picking(api.Row), api.Step{Do: api.StBounce}, []int{2, 0})
	y, did := act.Do(x, 0, 12, picking(api.Row), api.Step{Do: api.StDestroy}, []int{2, 0, 3})
	wantAct(t, "went", x, y, did, true, event(api.EvDestroy, 3, 1))
	wantWent(t, "went", x, y, api.Grave, 3)
	y, did = act.Do(x, 0, 12, picking(api.Row), api.Step{Do: api.StDestroy}, []int{2, 0})
	wantAct(t, "all went", x, y, did, false)
}

// P10.1: each player that has room gets a token, of an attack of 0 to MaxNumber.
func TestToken(t *testing.T) {
	for n, attack := range map[int]int{math.MinInt: 0, -1: 0, 0: 0, 1: 1, 700: 700, api.MaxNumber: api.MaxNumber, api.MaxNumber + 1: api.MaxNumber, math.MaxInt: api.MaxNumber} {
		for side, players := range sides {
			for who := range uint8(2) {
				was := spread(t)
				want, happened := board.Copy(was), []api.Event(nil)
				for _, p := range []uint8{who, 1 - who} {
					if players[who][p] {
						happened = append(happened, event(api.EvSummon, len(want.Pieces), p))
						want.Pieces = append(want.Pieces, api.Piece{Def: -1, Attack: attack, Owner: p, Has: p, Zone: api.Row, At: board.Free(was, p, api.Row), Up: true, Since: 3})
					}
				}
				x, did := act.Do(was, who, 0, api.Effect{}, api.Step{Do: api.StToken, Side: uint8(side), N: num(n)}, nil)
				wantAct(t, "token", was, x, did, len(happened) > 0, happened...)
				if !slices.Equal(x.Pieces, want.Pieces) {
					t.Errorf("%d, %d: %+v; not %+v", n, side, x.Pieces, want.Pieces)
				}
			}
		}
	}
}

// P10.1: no token comes without a free place, nor if there are MaxCards pieces.
func TestNoToken(t *testing.T) {
	full := make([]laid, api.Slots)
	for at := range full {
		full[at] = laid{-1, 0, 0, api.Row, at, true}
	}
	was := table(t, full...)
	both := api.Step{Do: api.StToken, Side: api.Any, N: num(5)}
	x, did := act.Do(was, 0, 0, api.Effect{}, both, nil)
	wantAct(t, "room of 1", was, x, did, true, event(api.EvSummon, api.Slots, 1))
	x, did = act.Do(was, 1, 0, api.Effect{}, api.Step{Do: api.StToken, Side: api.Theirs, N: num(5)}, nil)
	wantAct(t, "no room", was, x, did, false)
	var gone []laid
	for range api.MaxCards - 1 {
		gone = append(gone, laid{-1, 0, 0, api.Nowhere, 0, false})
	}
	was = table(t, gone...)
	x, did = act.Do(was, 1, 0, api.Effect{}, both, nil)
	wantAct(t, "one more", was, x, did, true, event(api.EvSummon, api.MaxCards-1, 1))
	wantIn(t, "one more", x, 1, api.Row, api.MaxCards-1)
	y, did := act.Do(x, 0, 0, api.Effect{}, both, nil)
	wantAct(t, "MaxCards", x, y, did, false)
}
