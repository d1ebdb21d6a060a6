package news_test

import (
	"math"
	"reflect"
	"slices"
	"testing"

	"joust/api"
	"joust/news"
	"joust/view"
)

func line(has, zone uint8, at, def, attack int) api.Seen {
	return api.Seen{Has: has, Zone: zone, At: at, Def: def, Attack: attack}
}

// sees is a view of these lines.
func sees(l ...api.Seen) api.View { return api.View{Pieces: l} }

// texts are news, told.
func texts(l []api.News) (out []string) {
	for _, n := range l {
		out = append(out, news.Text(n))
	}
	return out
}

// between is what changed, of views that may be.
func between(t *testing.T, a, b api.View) []api.News {
	t.Helper()
	l, e := news.Between(a, b)
	if e != api.OK {
		t.Fatalf("Between(%+v, %+v): %d", a, b, e)
	}
	return l
}

// applied is the view behind news that can be done.
func applied(t *testing.T, v api.View, l []api.News) api.View {
	t.Helper()
	v, e := news.Apply(v, l)
	if e != api.OK {
		t.Fatalf("Apply(%q): %d", texts(l), e)
	}
	return v
}

// isBare tells whether v is that view, without its options.
func isBare(v, of api.View) bool {
	of.Options = nil
	return view.Same(v, of)
}

// P25.1 to P25.4: the chapter's example.
func TestExample(t *testing.T) {
	a := sees(line(0, api.Hand, 0, 0, 0))
	a.Life = [2]int{8000, 8000}
	b := sees(line(0, api.Row, 2, 3, 500))
	b.Life = [2]int{8000, 7000}
	l := between(t, a, b)
	if got := texts(l); !slices.Equal(got, []string{"gone 0 1 0", "came 0 2 2 3 500", "life 1 7000"}) {
		t.Errorf("Between = %q", got)
	}
	if v := applied(t, a, l); !view.Same(v, b) {
		t.Errorf("Apply = %+v", v)
	}
}

// P25.1: which lines there may be, one by one.
func TestMayOfOne(t *testing.T) {
	for has := range 256 {
		for zone := range 256 {
			for _, at := range []int{math.MinInt, -1, 0, 5, math.MaxInt} {
				v := sees(api.Seen{Has: uint8(has), Zone: uint8(zone), At: at, Owner: 77, Def: -9, Attack: -1, Known: true, Low: true})
				if news.May(v) != (has <= 1 && zone <= api.Limbo) {
					t.Fatalf("May(%+v) = %v", v, news.May(v))
				}
			}
		}
	}
}

// inOrder is one line of each who has it, zone and place, as they stand in a view.
func inOrder() (l []api.Seen) {
	for _, zones := range [][]uint8{{api.Hand, api.Row, api.Back, api.Grave, api.Exile, api.Limbo}, {api.Deck}} {
		for has := range uint8(2) {
			for _, zone := range zones {
				for _, at := range []int{math.MinInt, -2, 0, 1, math.MaxInt} {
					l = append(l, line(has, zone, at, 3, 4))
				}
			}
		}
	}
	return l
}

// P25.1: a view may be, if its slots rise: each line against each other one.
func TestMayOfTwo(t *testing.T) {
	l := inOrder()
	if !news.May(sees(l...)) || !news.May(sees()) {
		t.Error("a view in order may not be")
	}
	for i, a := range l {
		for j, b := range l {
			b.Def, b.Attack, b.Owner, b.Up = j, -j, 1, true
			if is := news.May(sees(a, b)); is != (i < j) {
				t.Fatalf("May(%+v, %+v) = %v", a, b, is)
			}
		}
	}
}

// P25.1: one wrong line spoils the view, wherever it stands; nothing else does.
func TestMayOfMany(t *testing.T) {
	for i := range inOrder() {
		for k, change := range []func(l []api.Seen){
			func(l []api.Seen) { l[i].Has += 2 },
			func(l []api.Seen) { l[i].Zone = api.Nowhere },
			func(l []api.Seen) { j := (i + 1) % len(l); l[i], l[j] = l[j], l[i] },
			func(l []api.Seen) { l[i] = l[(i+1)%len(l)] },
		} {
			l := inOrder()
			change(l)
			v := sees(l...)
			if news.May(v) {
				t.Errorf("%d, %d: it may be", i, k)
			}
			for _, other := range []api.View{{}, sees(inOrder()...), v} {
				if n, e := news.Between(v, other); e != api.ErrArg || len(n) > 0 {
					t.Errorf("%d, %d: Between = %v, %d", i, k, n, e)
				}
				if n, e := news.Between(other, v); e != api.ErrArg || len(n) > 0 {
					t.Errorf("%d, %d: Between = %v, %d", i, k, n, e)
				}
			}
			if x, e := news.Apply(v, nil); e != api.ErrArg || !reflect.DeepEqual(x, api.View{}) {
				t.Errorf("%d, %d: Apply = %v, %d", i, k, x, e)
			}
		}
	}
	odd := api.View{Life: [2]int{-5, math.MinInt}, Player: 9, Turn: -3, Stage: 255, Asked: 99, Options: []api.Option{{Do: 99, Piece: -7}}}
	if !news.May(odd) || !news.May(api.View{}) {
		t.Error("lives, a turn, options spoil a view")
	}
}

// P25.1: what changed comes in the chapter's order, each with its own fields alone.
func TestOrder(t *testing.T) {
	same := api.Seen{Has: 1, Zone: api.Back, At: 2, Owner: 1, Def: -1}
	was := api.Seen{Has: 1, Zone: api.Row, At: 4, Owner: 1, Known: true, Def: 2, Attack: 100, Up: true}
	is := was
	is.Low = true
	came := api.Seen{Has: 0, Zone: api.Grave, At: -7, Owner: 1, Known: true, Def: 5, Attack: 900, Up: true}
	drawn := line(1, api.Deck, 1, -1, 0)
	a := sees(line(0, api.Hand, 1, 1, 0), line(0, api.Grave, 3, 1, 0), line(1, api.Hand, 0, 1, 0), was, same, line(0, api.Deck, 9, -1, 0))
	b := sees(came, is, same, drawn)
	a.Life, b.Life = [2]int{1, 2}, [2]int{-4, math.MaxInt}
	b.Player, b.Turn, b.Stage, b.Asked = 200, -8, 255, 201
	b.Options = []api.Option{{Do: 1}}
	want := []api.News{
		{What: api.NwGone, Zone: api.Hand, At: 1},
		{What: api.NwGone, Zone: api.Grave, At: 3},
		{What: api.NwGone, Who: 1, Zone: api.Hand},
		{What: api.NwGone, Zone: api.Deck, At: 9},
		{What: api.NwCame, Zone: api.Grave, At: -7, Seen: came},
		{What: api.NwSeen, Who: 1, Zone: api.Row, At: 4, Seen: is},
		{What: api.NwCame, Who: 1, Zone: api.Deck, At: 1, Seen: drawn},
		{What: api.NwLife, N: -4},
		{What: api.NwLife, Who: 1, N: math.MaxInt},
		{What: api.NwPlayer, Who: 200},
		{What: api.NwTurn, N: -8},
		{What: api.NwStage, N: 255},
		{What: api.NwAsked, Who: 201},
	}
	l := between(t, a, b)
	if !slices.Equal(l, want) {
		t.Errorf("Between = %+v", l)
	}
	if v := applied(t, a, l); !isBare(v, b) {
		t.Errorf("Apply = %+v", v)
	}
}

// fields calls f with each number and truth in v.
func fields(v reflect.Value, path string, f func(path string, v reflect.Value)) {
	switch v.Kind() {
	case reflect.Struct:
		for i := range v.NumField() {
			fields(v.Field(i), path+v.Type().Field(i).Name+" ", f)
		}
	case reflect.Array, reflect.Slice:
		for i := range v.Len() {
			fields(v.Index(i), path, f)
		}
	default:
		f(path, v)
	}
}

// other makes it something else.
func other(v reflect.Value) {
	switch v.Kind() {
	case reflect.Bool:
		v.SetBool(!v.Bool())
	case reflect.Int:
		v.SetInt(v.Int() + 1)
	case reflect.Uint8:
		v.SetUint(v.Uint() ^ 1)
	}
}

// P25.1, P25.4: each field of a view, changed by itself, is told, and nothing else is; options are not.
func TestEachField(t *testing.T) {
	a := sees(line(0, api.Hand, 4, 7, 300))
	a.Options = []api.Option{{Do: api.OpPick, Piece: 2, Arg: 3}}
	b := sees(slices.Clone(a.Pieces)...)
	b.Options = slices.Clone(a.Options)
	count := map[string]int{}
	fields(reflect.ValueOf(&b).Elem(), "", func(path string, v reflect.Value) {
		was := reflect.New(v.Type()).Elem()
		was.Set(v)
		other(v)
		l := between(t, a, b)
		count[path] += len(l)
		if x := applied(t, a, l); !isBare(x, b) {
			t.Errorf("%s: %q, Apply = %+v", path, texts(l), x)
		}
		if len(l) == 1 && len(b.Pieces) == 1 && l[0].What == api.NwSeen && l[0].Seen != b.Pieces[0] {
			t.Errorf("%s: Between = %+v", path, l)
		}
		v.Set(was)
	})
	want := map[string]int{"Pieces Zone ": 2, "Pieces At ": 2, "Pieces Has ": 2, "Pieces Owner ": 1, "Pieces Known ": 1, "Pieces Def ": 1, "Pieces Attack ": 1, "Pieces Up ": 1, "Pieces Low ": 1, "Life ": 2, "Player ": 1, "Turn ": 1, "Stage ": 1, "Asked ": 1, "Options Do ": 0, "Options Piece ": 0, "Options Arg ": 0}
	if !reflect.DeepEqual(count, want) {
		t.Errorf("told: %v", count)
	}
}

// P25.4: between a view and itself nothing changed.
func TestNothing(t *testing.T) {
	v := sees(inOrder()...)
	v.Life, v.Player, v.Turn, v.Stage, v.Asked, v.Options = [2]int{1, 2}, 3, 4, 5, 6, make([]api.Option, 7)
	for _, x := range []api.View{{}, v, sees(make([]api.Seen, 0)...)} {
		if l := between(t, x, x); len(l) > 0 {
			t.Errorf("Between = %q", texts(l))
		}
		if l := between(t, x, news.Bare(x)); len(l) > 0 {
			t.Errorf("Between = %q", texts(l))
		}
	}
}

// P25.1: Bare takes the options alone, of a view that may not be, too.
func TestBare(t *testing.T) {
	v := sees(line(9, 99, -1, 5, 6), line(0, api.Hand, 0, 1, 2))
	v.Life, v.Player, v.Turn, v.Stage, v.Asked, v.Options = [2]int{1, 2}, 3, 4, 5, 6, make([]api.Option, 7)
	if b := news.Bare(v); !isBare(b, v) || len(b.Options) > 0 || len(v.Options) != 7 {
		t.Errorf("Bare = %+v", b)
	}
	if b := news.Bare(api.View{}); !view.Same(b, api.View{}) {
		t.Errorf("Bare = %+v", b)
	}
}

// P25.3: each kind of news, at the edges of its numbers; of another one nothing.
func TestText(t *testing.T) {
	n := api.News{Who: 255, Zone: 254, At: -1, Seen: api.Seen{Has: 3, Zone: 4, At: 5, Owner: 6, Known: true, Def: -8, Attack: 99999, Up: true}, N: math.MinInt}
	want := map[uint8]string{
		api.NwGone:   "gone 255 254 -1",
		api.NwCame:   "came 255 254 -1 -8 99999",
		api.NwSeen:   "seen 255 254 -1 -8 99999",
		api.NwLife:   "life 255 -9223372036854775808",
		api.NwPlayer: "player 255",
		api.NwTurn:   "turn -9223372036854775808",
		api.NwStage:  "stage -9223372036854775808",
		api.NwAsked:  "asked 255",
	}
	for what := range 256 {
		n.What = uint8(what)
		if got := news.Text(n); got != want[n.What] {
			t.Errorf("%d: Text = %q", what, got)
		}
	}
	n = api.News{At: math.MaxInt, Seen: api.Seen{Def: math.MaxInt, Attack: math.MinInt}}
	for what, want := range []string{"", "gone 0 0 9223372036854775807", "came 0 0 9223372036854775807 9223372036854775807 -9223372036854775808", "seen 0 0 9223372036854775807 9223372036854775807 -9223372036854775808", "life 0 0", "player 0", "turn 0", "stage 0", "asked 0", ""} {
		n.What = uint8(what)
		if got := news.Text(n); got != want {
			t.Errorf("%d: Text = %q", what, got)
		}
	}
}
