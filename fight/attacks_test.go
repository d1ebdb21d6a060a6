package fight_test

import (
	"slices"
	"testing"

	"joust/api"
	"joust/fight"
)

// attack is a piece against another one.
func attack(a, d int) api.Option { return api.Option{Do: api.OpAttack, Piece: a, Arg: d} }

// attacks asks whom somebody may attack; the end is behind all.
func attacks(t *testing.T, what string, x api.Table, who uint8, want ...api.Option) {
	t.Helper()
	want = append(want, api.Option{Do: api.OpEnd, Piece: -1, Arg: -1})
	if l := fight.Attacks(x, who); !slices.Equal(l, want) {
		t.Errorf("%s: Attacks of %d = %v; not %v", what, who, l, want)
	}
}

// P15.1: each piece against each one of the other's, both by places, whatever their numbers are.
func TestAttacks(t *testing.T) {
	x := table(t, row(0, 3, 5, 0), row(1, 4, 5, 0), row(0, 1, 5, 0), row(1, 2, 5, 0), row(0, 4, 5, 0), row(1, 0, 5, 0))
	for _, x.Player = range []uint8{0, 1} { // whose turn it is isn't asked
		attacks(t, "three and three", x, 0, attack(2, 5), attack(2, 3), attack(2, 1), attack(0, 5), attack(0, 3), attack(0, 1), attack(4, 5), attack(4, 3), attack(4, 1))
		attacks(t, "three and three", x, 1, attack(5, 2), attack(5, 0), attack(5, 4), attack(3, 2), attack(3, 0), attack(3, 4), attack(1, 2), attack(1, 0), attack(1, 4))
	}
	x.Turn = 1
	attacks(t, "in the first turn", x, 0, attack(2, 5), attack(2, 3), attack(2, 1), attack(0, 5), attack(0, 3), attack(0, 1), attack(4, 5), attack(4, 3), attack(4, 1))
}

// P15.1: nobody is attacked where the other one's Row is empty, and only there.
func TestAttacksOnNobody(t *testing.T) {
	behind := []api.Piece{of(net, in(1, api.Back, 0, 0, 0)), in(1, api.Hand, 0, 5, 0), in(1, api.Deck, 0, 5, 0), in(1, api.Grave, 0, 5, 0), in(1, api.Exile, 0, 5, 0), in(1, api.Limbo, 0, 5, 0), of(-1, in(1, api.Nowhere, 0, 5, 0)), row(0, 2, 5, 0), row(0, 0, 0, 0)}
	x := table(t, behind...)
	attacks(t, "none in Row", x, 0, attack(8, -1), attack(7, -1))
	attacks(t, "the one without a Row", x, 1)
	for what, p := range map[string]api.Piece{
		"face down": down(row(1, 4, 5, 0)), "Low": low(row(1, 4, 5, 0)), "Low and face down": low(down(row(1, 4, 5, 0))),
		"struck": struck(row(1, 4, 5, 0)), "taken": taken(row(1, 4, 5, 0)), "a token": of(-1, row(1, 4, 5, 0)),
	} {
		attacks(t, what, table(t, append(slices.Clone(behind), p)...), 0, attack(8, 9), attack(7, 9))
	}
}

// P15.1: who does not attack: what attacked, is Low, face down, elsewhere, or the other one's.
func TestWhoAttacks(t *testing.T) {
	theirs := row(1, 0, 9, 9)
	for what, p := range map[string]api.Piece{
		"struck": struck(row(0, 1, 5, 0)), "Low": low(row(0, 1, 5, 0)), "face down": down(row(0, 1, 5, 0)), "Low and face down": low(down(row(0, 1, 5, 0))),
		"in Back": of(net, in(0, api.Back, 1, 0, 0)), "in the hand": in(0, api.Hand, 0, 5, 0), "in the grave": in(0, api.Grave, 0, 5, 0), "in the deck": in(0, api.Deck, 0, 5, 0),
		"in Exile": in(0, api.Exile, 0, 5, 0), "in Limbo": in(0, api.Limbo, 0, 5, 0), "Nowhere": of(-1, in(0, api.Nowhere, 0, 5, 0)),
	} {
		attacks(t, what, table(t, p, theirs), 0)
		attacks(t, what, table(t, p, row(0, 2, 0, 0), theirs), 0, attack(1, 2))
	}
	x := table(t, taken(row(1, 1, 5, 0)), row(0, 2, 0, 0), theirs)
	attacks(t, "taken by the other one", x, 0, attack(1, 2), attack(1, 0))
	attacks(t, "taken by the other one", x, 1, attack(2, 1), attack(0, 1))
	turned := row(0, 1, 0, 0)
	turned.Turned, turned.Used, turned.Since = true, 255, 3
	attacks(t, "turned, used, new, without attack", table(t, turned, theirs), 0, attack(0, 1))
	attacks(t, "taken, a token", table(t, taken(row(0, 1, 5, 0)), of(-1, row(0, 0, 5, 0)), theirs), 0, attack(1, 2), attack(0, 2))
}

// P15.1: nobody is no player.
func TestAttacksOfNoPlayer(t *testing.T) {
	x := table(t, row(0, 0, 5, 0), row(1, 0, 4, 0))
	for who := 2; who < 256; who++ {
		if l := fight.Attacks(x, uint8(who)); len(l) > 0 {
			t.Errorf("Attacks of %d = %v", who, l)
		}
	}
	x = table(t)
	attacks(t, "nothing there", x, 0)
	attacks(t, "nothing there", x, 1)
}

// P15.1: each attack that may be chosen has an outcome, also where both Rows are full.
func TestAttacksHaveOutcomes(t *testing.T) {
	var l []api.Piece
	for at := range api.Slots {
		l = append(l, row(0, at, 100*at, 0), row(1, api.Slots-1-at, 150*at, 0))
	}
	x := table(t, l...)
	for who := range uint8(2) {
		options := fight.Attacks(x, who)
		if len(options) != api.Slots*api.Slots+1 {
			t.Errorf("Attacks of %d: %d", who, len(options))
		}
		for _, o := range options[:len(options)-1] {
			x.Pieces[o.Piece].Struck = true
			if _, _, e := fight.Outcome(x, o.Piece, o.Arg); e != api.OK {
				t.Errorf("Outcome(%d, %d): %v", o.Piece, o.Arg, e)
			}
		}
		attacks(t, "all struck", x, who)
	}
}
