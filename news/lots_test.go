package news_test

import (
	"math/rand/v2"
	"reflect"
	"slices"
	"testing"

	"joust/api"
	"joust/check"
	"joust/duel"
	"joust/news"
	"joust/parse"
	"joust/view"
)

// places are those of the lines of views by lot.
const places = 4

// lots draws views, and news.
type lots struct{ *rand.Rand }

func (l lots) yes(of int) bool { return l.IntN(of) == 0 }

func (l lots) line() api.Seen {
	return api.Seen{Has: uint8(l.IntN(2)), Zone: uint8(l.IntN(api.Nowhere)), At: l.IntN(places), Owner: uint8(l.IntN(2)), Known: l.yes(2), Def: l.IntN(2), Up: l.yes(2)}
}

// less is a second reading of the order: the lines of each list of zones one player's behind the other's.
func less(a, b api.Seen) bool {
	number := func(s api.Seen) int {
		n := 100*int(s.Has) + 10*int(s.Zone) + s.At
		if s.Zone == api.Deck {
			n += 1000
		}
		return n
	}
	return number(a) < number(b)
}

// place is where in l the line of that slot is, or -1.
func place(l []api.Seen, has, zone uint8, at int) int {
	return slices.IndexFunc(l, func(s api.Seen) bool { return s.Has == has && s.Zone == zone && s.At == at })
}

// put lays a line where it belongs.
func put(l []api.Seen, s api.Seen) []api.Seen {
	i := 0
	for i < len(l) && less(l[i], s) {
		i++
	}
	return slices.Insert(slices.Clone(l), i, s)
}

// view is one by lot that may be.
func (l lots) view() api.View {
	v := api.View{Life: [2]int{l.IntN(2), l.IntN(2)}, Player: uint8(l.IntN(2)), Turn: l.IntN(2), Stage: uint8(l.IntN(2)), Asked: uint8(l.IntN(2)), Options: make([]api.Option, l.IntN(2))}
	for range l.IntN(30) {
		if s := l.line(); place(v.Pieces, s.Has, s.Zone, s.At) < 0 {
			v.Pieces = put(v.Pieces, s)
		}
	}
	return v
}

// near is a view that is like v, but for a few lines, and now and then the rest.
func (l lots) near(v api.View) api.View {
	w := l.view()
	w.Pieces = slices.Clone(v.Pieces)
	for range l.IntN(6) {
		s := l.line()
		switch i := place(w.Pieces, s.Has, s.Zone, s.At); {
		case i < 0:
			w.Pieces = put(w.Pieces, s)
		case l.yes(2):
			w.Pieces[i] = s
		default:
			w.Pieces = slices.Delete(w.Pieces, i, i+1)
		}
	}
	return w
}

// slots calls f with each slot that there is, in the order of lines.
func slots(f func(has, zone uint8, at int)) {
	for _, zones := range [][]uint8{{1, 2, 3, 4, 5, 6}, {0}} {
		for has := range uint8(2) {
			for _, zone := range zones {
				for at := range places {
					f(has, zone, at)
				}
			}
		}
	}
}

// read is a second reading of what changed.
func read(a, b api.View) (l []api.News) {
	slots(func(has, zone uint8, at int) {
		if place(a.Pieces, has, zone, at) >= 0 && place(b.Pieces, has, zone, at) < 0 {
			l = append(l, gone(has, zone, at))
		}
	})
	slots(func(has, zone uint8, at int) {
		i, j := place(a.Pieces, has, zone, at), place(b.Pieces, has, zone, at)
		if j >= 0 && i < 0 {
			l = append(l, about(api.NwCame, b.Pieces[j]))
		} else if j >= 0 && !reflect.DeepEqual(a.Pieces[i], b.Pieces[j]) {
			l = append(l, about(api.NwSeen, b.Pieces[j]))
		}
	})
	for _, c := range []struct {
		was, is int
		n       api.News
	}{
		{a.Life[0], b.Life[0], api.News{What: api.NwLife, N: b.Life[0]}},
		{a.Life[1], b.Life[1], api.News{What: api.NwLife, Who: 1, N: b.Life[1]}},
		{int(a.Player), int(b.Player), api.News{What: api.NwPlayer, Who: b.Player}},
		{a.Turn, b.Turn, api.News{What: api.NwTurn, N: b.Turn}},
		{int(a.Stage), int(b.Stage), api.News{What: api.NwStage, N: int(b.Stage)}},
		{int(a.Asked), int(b.Asked), api.News{What: api.NwAsked, Who: b.Asked}},
	} {
		if c.was != c.is {
			l = append(l, c.n)
		}
	}
	return l
}

// done is a second reading of what one of the news that may be comes to.
func done(v api.View, n api.News) (api.View, api.Errno) {
	i := place(v.Pieces, n.Who, n.Zone, n.At)
	switch n.What {
	case api.NwGone:
		if i < 0 {
			return v, api.ErrNone
		}
		v.Pieces = slices.Delete(slices.Clone(v.Pieces), i, i+1)
	case api.NwCame:
		if i >= 0 {
			return v, api.ErrTwice
		}
		v.Pieces = put(v.Pieces, n.Seen)
	case api.NwSeen:
		if i < 0 {
			return v, api.ErrNone
		}
		v.Pieces = slices.Clone(v.Pieces)
		v.Pieces[i] = n.Seen
	case api.NwLife:
		v.Life[n.Who] = n.N
	case api.NwPlayer:
		v.Player = n.Who
	case api.NwTurn:
		v.Turn = n.N
	case api.NwStage:
		v.Stage = uint8(n.N)
	case api.NwAsked:
		v.Asked = n.Who
	}
	return v, api.OK
}

// told holds what changed from a to b, and what follows: done to a it is b, and none of it can be left out.
func told(t *testing.T, a, b api.View) []api.News {
	t.Helper()
	l := between(t, a, b)
	if x := applied(t, a, l); !isBare(x, b) {
		t.Fatalf("%q: Apply = %+v\nnot %+v", texts(l), x, b)
	}
	for i := range l {
		rest := slices.Delete(slices.Clone(l), i, i+1)
		if x, e := news.Apply(a, rest); e == api.OK && isBare(x, b) {
			t.Fatalf("%q: %q can be left out", texts(l), news.Text(l[i]))
		}
	}
	return l
}

// P25.1, P25.2, P25.4: views by lot, by the second reading.
func TestViewsByLot(t *testing.T) {
	lot, met := lots{rand.New(rand.NewPCG(25, 1))}, map[uint8]int{}
	for i := range 4000 {
		a := lot.view()
		b := lot.view()
		if i%2 == 0 {
			b = lot.near(a)
		}
		l := told(t, a, b)
		if !slices.Equal(l, read(a, b)) {
			t.Fatalf("Between = %q, not %q", texts(l), texts(read(a, b)))
		}
		for _, n := range l {
			met[n.What]++
		}
		if l := between(t, a, news.Bare(a)); len(l) > 0 {
			t.Fatalf("Between = %q", texts(l))
		}
	}
	for what := uint8(api.NwGone); what <= api.NwAsked; what++ {
		if met[what] < 1000 {
			t.Errorf("what changed: %v", met)
		}
	}
}

// P25.1: which views by lot may be.
func TestMayByLot(t *testing.T) {
	lot, met := lots{rand.New(rand.NewPCG(25, 2))}, map[bool]int{}
	for range 20000 {
		v := lot.view()
		if len(v.Pieces) == 0 {
			continue
		}
		for range lot.IntN(3) {
			v.Pieces[lot.IntN(len(v.Pieces))] = lot.line()
		}
		want := true
		for i := range v.Pieces {
			for j := range i {
				want = want && less(v.Pieces[j], v.Pieces[i])
			}
		}
		met[want]++
		if news.May(v) != want {
			t.Fatalf("May(%+v) = %v", v, !want)
		}
	}
	if met[true] < 5000 || met[false] < 5000 {
		t.Errorf("views that may be, and others: %v", met)
	}
}

// news is some by lot, mostly such as can be done to v.
func (l lots) news(v api.View) api.News {
	s := l.line()
	there := place(v.Pieces, s.Has, s.Zone, s.At) >= 0
	what := uint8(api.NwGone + l.IntN(api.NwAsked))
	if what <= api.NwSeen {
		what = api.NwCame
		if there != l.yes(40) {
			what = []uint8{api.NwGone, api.NwSeen}[l.IntN(2)]
		}
	}
	switch what {
	case api.NwGone:
		return gone(s.Has, s.Zone, s.At)
	case api.NwCame, api.NwSeen:
		return about(what, s)
	}
	return api.News{What: what, Who: uint8(l.IntN(2)), N: l.IntN(256)}
}

// P25.2: news by lot, one by one, by the second reading.
func TestNewsByLot(t *testing.T) {
	lot, met := lots{rand.New(rand.NewPCG(25, 3))}, map[api.Errno]int{}
	for range 8000 {
		v := lot.view()
		want, e := v, api.OK
		var l []api.News
		for range lot.IntN(30) {
			n := lot.news(want)
			l = append(l, n)
			if want, e = done(want, n); e != api.OK {
				break
			}
		}
		for range lot.IntN(3) {
			l = append(l, lot.news(want))
			if e == api.OK {
				want, e = done(want, l[len(l)-1])
			}
		}
		met[e]++
		if e != api.OK {
			refuses(t, v, e, l...)
		} else {
			comes(t, v, want, l...)
		}
	}
	if met[api.OK] < 2000 || met[api.ErrNone] < 500 || met[api.ErrTwice] < 200 {
		t.Errorf("answers: %v", met)
	}
}

const poolText = `
unit ogre 4 1800 1000 { }
unit lord 6 2500 2000 { must upon summon self : destroy theirs back all ; if upon attack self : draw mine 1 ; }
unit imp 3 1000 1900 { swift picks 1 any row unit : bounce ; when upon destroy any : token mine 400 ; }
unit chief 4 900 900 { aura : boost 300 mine row unit ; act picks 2 any row unit : boost 500 ; }
spell rain { play drops 1 : damage theirs 500 ; destroy theirs row all ; }
spell call { play picks 1 any grave unit : revive ; }
quick gust { play picks 1 any row all : bounce ; }
quick gale { play picks 1 theirs back all : banish ; }
trap rush { play upon summon any : token theirs 300 ; token mine 200 ; }
counter stop { play upon link theirs : negate ; }
counter bar { play upon try theirs : negate ; }
`

// begun is a duel of such kinds, by lot.
func (l lots) begun(t *testing.T) api.Duel {
	t.Helper()
	kinds, fault := parse.Pool(poolText)
	if i, e := check.Pool(kinds); fault.E != api.OK || e != api.OK {
		t.Fatalf("no pool: %v, %d: %d", fault, i, e)
	}
	var decks [2][]int
	for who := range decks {
		for range 10 + l.IntN(api.MaxDeck-9) {
			decks[who] = append(decks[who], l.IntN(len(kinds)))
		}
	}
	d, e := duel.Begin(kinds, decks)
	if e != api.OK {
		t.Fatal(e)
	}
	return d
}

// P25.4: what the views of a duel tell: each may be; who knows the first one, and what changed with each decision, knows all.
func TestDuelsByLot(t *testing.T) {
	lot, met := lots{rand.New(rand.NewPCG(25, 4))}, map[uint8]int{}
	for range 25 {
		d := lot.begun(t)
		known := [2]api.View{view.Of(d, 0), view.Of(d, 1)}
		first := known
		for range 250 {
			options := duel.Ask(d).Options
			if len(options) == 0 {
				break
			}
			var e api.Errno
			if d, e = duel.Decide(d, lot.IntN(len(options))); e != api.OK {
				t.Fatal(e)
			}
			for who := range uint8(2) {
				v := view.Of(d, who)
				l := told(t, known[who], v)
				if !news.May(v) || len(between(t, v, v)) > 0 || !isBare(news.Bare(v), v) {
					t.Fatalf("%+v", v)
				}
				known[who] = applied(t, known[who], l)
				for _, n := range l {
					met[n.What]++
				}
			}
		}
		for who := range uint8(2) {
			told(t, first[who], view.Of(d, who))
			told(t, view.Of(d, who), view.Of(d, 1-who))
		}
	}
	for what := uint8(api.NwGone); what <= api.NwAsked; what++ {
		if met[what] < 100 {
			t.Errorf("what changed: %v", met)
		}
	}
}
