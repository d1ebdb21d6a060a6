package news_test

import (
	"math"
	"reflect"
	"slices"
	"testing"

	"joust/api"
	"joust/news"
	"joust/view"
)

// about is news of a line.
func about(what uint8, s api.Seen) api.News {
	return api.News{What: what, Who: s.Has, Zone: s.Zone, At: s.At, Seen: s}
}

func gone(has, zone uint8, at int) api.News {
	return api.News{What: api.NwGone, Who: has, Zone: zone, At: at}
}

// laid is a view of a few lines.
func laid() api.View {
	v := sees(line(0, api.Hand, 0, 1, 0), line(0, api.Row, 3, 2, 500), line(1, api.Limbo, 0, 3, 0), line(0, api.Deck, 1, -1, 0))
	v.Life, v.Player, v.Turn, v.Stage, v.Asked, v.Options = [2]int{1, 2}, 3, 4, 5, 6, make([]api.Option, 7)
	return v
}

// refuses holds that news are answered with an error, and nothing else.
func refuses(t *testing.T, v api.View, want api.Errno, l ...api.News) {
	t.Helper()
	if x, e := news.Apply(v, l); e != want || !reflect.DeepEqual(x, api.View{}) {
		t.Errorf("Apply(%q) = %+v, %d, not %d", texts(l), x, e, want)
	}
}

// comes holds what news come to.
func comes(t *testing.T, v, want api.View, l ...api.News) {
	t.Helper()
	if x, e := news.Apply(v, l); e != api.OK || !isBare(x, want) {
		t.Errorf("Apply(%q) = %+v, %d", texts(l), x, e)
	}
}

// P25.2: there are eight kinds of news.
func TestKinds(t *testing.T) {
	v := laid()
	for what := range 256 {
		n := about(uint8(what), line(0, api.Row, 3, 9, 9))
		switch n.What {
		case api.NwGone, api.NwSeen, api.NwLife, api.NwPlayer, api.NwTurn, api.NwStage, api.NwAsked:
			applied(t, v, []api.News{n})
		case api.NwCame:
			refuses(t, v, api.ErrTwice, n)
		default:
			refuses(t, v, api.ErrArg, n)
		}
	}
}

// P25.2: what came, or is seen, is a line of the slot that is told, and may be; what is gone need not.
func TestSlots(t *testing.T) {
	for has := range 4 {
		for zone := range 9 {
			for _, what := range []uint8{api.NwCame, api.NwSeen} {
				want := api.ErrArg
				if has <= 1 && zone <= api.Limbo {
					want = api.OK
				}
				v := api.View{}
				n := about(what, line(uint8(has), uint8(zone), 5, 1, 2))
				if what == api.NwSeen && want == api.OK {
					v = sees(line(uint8(has), uint8(zone), 5, 0, 0))
				}
				if x, e := news.Apply(v, []api.News{n}); e != want || e == api.OK && x.Pieces[0] != n.Seen {
					t.Errorf("Apply(%+v) = %+v, %d", n, x, e)
				}
			}
			refuses(t, api.View{}, api.ErrNone, gone(uint8(has), uint8(zone), 5))
			refuses(t, laid(), api.ErrNone, gone(uint8(has), uint8(zone), 5))
		}
	}
	for _, change := range []func(n *api.News){
		func(n *api.News) { n.Who = 1 },
		func(n *api.News) { n.Zone = api.Back },
		func(n *api.News) { n.At++ },
		func(n *api.News) { n.Seen.Has = 1 },
		func(n *api.News) { n.Seen.Zone = api.Deck },
		func(n *api.News) { n.Seen.At-- },
	} {
		for _, what := range []uint8{api.NwCame, api.NwSeen} {
			n := about(what, line(0, api.Row, 3, 9, 9))
			change(&n)
			refuses(t, laid(), api.ErrArg, n)
		}
	}
}

// P25.2: whose life, which stage there may be; a player, a turn, a life may be any number.
func TestNumbers(t *testing.T) {
	for who := range 256 {
		v := laid()
		n := api.News{What: api.NwLife, Who: uint8(who), N: math.MinInt}
		if who > 1 {
			refuses(t, v, api.ErrArg, n)
		} else {
			v.Life[who] = math.MinInt
			comes(t, laid(), v, n)
		}
		v = laid()
		v.Player, v.Asked = uint8(who), uint8(255-who)
		comes(t, laid(), v, api.News{What: api.NwPlayer, Who: uint8(who)}, api.News{What: api.NwAsked, Who: uint8(255 - who)})
	}
	for _, n := range []int{math.MinInt, -256, -1, 0, 1, 254, 255, 256, 257, math.MaxInt} {
		v := laid()
		v.Turn = n
		comes(t, laid(), v, api.News{What: api.NwTurn, N: n})
		v = laid()
		v.Stage = uint8(n)
		if stage := (api.News{What: api.NwStage, N: n}); n < 0 || n > 255 {
			refuses(t, v, api.ErrArg, stage)
		} else {
			comes(t, laid(), v, stage)
		}
	}
}

// P25.2: a slot is there or not; what was done ahead counts.
func TestOneByOne(t *testing.T) {
	v := laid()
	there, not := line(0, api.Row, 3, 8, 8), line(1, api.Row, 3, 8, 8)
	refuses(t, v, api.ErrTwice, about(api.NwCame, there))
	refuses(t, v, api.ErrTwice, about(api.NwCame, v.Pieces[1]))
	refuses(t, v, api.ErrNone, about(api.NwSeen, not))
	refuses(t, v, api.ErrNone, gone(1, api.Row, 3))
	refuses(t, v, api.ErrNone, gone(0, api.Row, 3), gone(0, api.Row, 3))
	refuses(t, v, api.ErrNone, gone(0, api.Row, 3), about(api.NwSeen, there))
	refuses(t, v, api.ErrTwice, about(api.NwCame, not), about(api.NwCame, not))
	refuses(t, v, api.ErrTwice, api.News{What: api.NwTurn, N: 9}, about(api.NwCame, there), gone(1, api.Row, 3))
	refuses(t, v, api.ErrNone, gone(1, api.Row, 3), about(api.NwCame, there))
	comes(t, v, v, about(api.NwSeen, v.Pieces[1]))
	comes(t, v, v, gone(0, api.Row, 3), about(api.NwCame, v.Pieces[1]))
	comes(t, v, v, about(api.NwCame, not), about(api.NwSeen, not), gone(1, api.Row, 3))
	seen := laid()
	seen.Pieces[1], seen.Life[1], seen.Turn = there, 9, 10
	comes(t, v, seen, about(api.NwSeen, line(0, api.Row, 3, 7, 7)), api.News{What: api.NwLife, Who: 1, N: 5}, about(api.NwSeen, there), api.News{What: api.NwTurn, N: 10}, api.News{What: api.NwLife, Who: 1, N: 9})
	comes(t, v, v)
}

// P25.2: what is no news at all is found ahead of all else, wherever it stands; a view that may not be likewise.
func TestFirstError(t *testing.T) {
	none, twice := gone(1, api.Row, 3), about(api.NwCame, line(0, api.Row, 3, 8, 8))
	for _, wrong := range []api.News{{}, {What: 9}, {What: api.NwLife, Who: 2}, {What: api.NwStage, N: -1}, {What: api.NwCame, At: 1}, {What: api.NwSeen, Who: 2, Seen: api.Seen{Has: 2}}} {
		for at := range 3 {
			refuses(t, laid(), api.ErrArg, slices.Insert([]api.News{none, twice}, at, wrong)...)
			refuses(t, laid(), api.ErrArg, slices.Insert([]api.News{twice, none}, at, wrong)...)
		}
	}
	v := laid()
	v.Pieces[0], v.Pieces[1] = v.Pieces[1], v.Pieces[0]
	refuses(t, v, api.ErrArg, none)
	refuses(t, v, api.ErrArg, twice)
	refuses(t, v, api.ErrArg, gone(0, api.Row, 3))
}

// P25.2: lines stand in order, in whichever one they came.
func TestLinesInOrder(t *testing.T) {
	l := inOrder()
	for _, step := range []int{1, 3, 9, 11, 27, 33, 69} { // these go through all 70
		var came []api.News
		for i := range l {
			came = append(came, about(api.NwCame, l[i*step%len(l)]))
		}
		comes(t, api.View{}, sees(l...), came...)
	}
	var went []api.News
	for i, s := range l {
		if i%3 != 0 {
			went = append(went, gone(s.Has, s.Zone, s.At))
		}
	}
	var left []api.Seen
	for i := 0; i < len(l); i += 3 {
		left = append(left, l[i])
	}
	comes(t, sees(l...), sees(left...), went...)
}

// P25.2: fields of which the kind of news says nothing don't count.
func TestOtherFields(t *testing.T) {
	junk := api.News{Who: 1, Zone: 99, At: -5, Seen: line(7, 8, 9, 10, 11), N: 300}
	for what, want := range map[uint8]func(v *api.View){
		api.NwLife:   func(v *api.View) { v.Life[1] = 300 },
		api.NwPlayer: func(v *api.View) { v.Player = 1 },
		api.NwTurn:   func(v *api.View) { v.Turn = 300 },
		api.NwAsked:  func(v *api.View) { v.Asked = 1 },
	} {
		n, v := junk, laid()
		n.What = what
		want(&v)
		comes(t, laid(), v, n)
	}
	n, v := junk, laid()
	n.What, n.N = api.NwStage, 77
	v.Stage = 77
	comes(t, laid(), v, n)
	n = junk
	n.What, n.Who, n.Zone, n.At = api.NwGone, 1, api.Limbo, 0
	v = laid()
	v.Pieces = slices.Delete(v.Pieces, 2, 3)
	comes(t, laid(), v, n)
}

// P25.2: all lines can go.
func TestNoLinesLeft(t *testing.T) {
	v := laid()
	l := between(t, v, api.View{})
	if x := applied(t, v, l); !view.Same(x, api.View{}) || len(l) != 10 {
		t.Errorf("Apply = %+v", x)
	}
}
