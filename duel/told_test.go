package duel

import (
	"testing"

	"joust/api"
)

// recovered is what is recovered of a function that panics.
func recovered(f func()) (what any) {
	defer func() { what = recover() }()
	f()
	return nil
}

// What panics is told: a duel that can't go on is not now, a piece that is not there may not be.
func TestTold(t *testing.T) {
	pieces, none := []api.Piece{}, map[uint8]func(*game){}
	for i, c := range []struct {
		f    func()
		want api.Errno
	}{
		{func() { must(api.ErrFull) }, api.ErrState},
		{func() { (&game{api.Duel{Then: 99}}).come() }, api.ErrState},
		{func() { pieces[len(pieces)].Up = true }, api.ErrArg},
		{func() { none[3](nil) }, api.ErrArg},
	} {
		what := recovered(c.f)
		if what == nil {
			t.Fatalf("%d: no panic", i)
		}
		if e := told(what); e != c.want {
			t.Errorf("%d: told %d, not %d", i, e, c.want)
		}
	}
	must(api.OK)
}
