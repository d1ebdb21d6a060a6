package trail_test

import (
	"math/rand/v2"
	"reflect"
	"slices"
	"testing"

	"joust/api"
	"joust/check"
	"joust/duel"
	"joust/parse"
	"joust/save"
	"joust/trail"
)

const poolText = `
unit ogre 4 1800 1000 { }
unit lord 6 2500 2000 { must upon summon self : destroy theirs back all ; if upon attack self : draw mine 1 ; }
unit imp 3 1000 1900 { swift picks 1 any row unit : bounce ; when upon destroy any : token mine 400 ; }
unit ghost 2 500 500 { act picks 1 any row unit : destroy ; if upon destroy self picks 1 any row all : bounce ; must upon destroy self : damage any 100 ; }
unit chief 4 900 900 { aura : boost 300 mine row unit ; act picks 2 any row unit : boost 500 ; if upon damage any : damage theirs (* 100 count mine row all) ; }
spell rain { play drops 1 : damage theirs 500 ; destroy theirs row all ; }
spell call { play picks 1 any grave unit : revive ; }
quick gust { play picks 1 any row all : bounce ; }
quick gale { play picks 1 theirs back all : banish ; }
trap rush { play upon summon any : token theirs 300 ; token mine 200 ; }
counter stop { play upon link theirs : negate ; }
counter bar { play upon try theirs : negate ; }
`

// pool is kinds that may be played.
func pool(t *testing.T) []api.Card {
	t.Helper()
	kinds, fault := parse.Pool(poolText)
	if i, e := check.Pool(kinds); fault.E != api.OK || e != api.OK {
		t.Fatalf("no pool: %v, %d: %d", fault, i, e)
	}
	return kinds
}

// plain is a second reading of trails: it has the duels of all places.
type plain struct {
	duels  []api.Duel
	script []int
	place  int
}

func (p *plain) do(n int) api.Errno {
	if p.place == api.MaxTrail {
		return api.ErrFull
	}
	after, e := duel.Decide(p.duels[p.place], n)
	if e != api.OK {
		return e
	}
	if p.place == len(p.script) || p.script[p.place] != n {
		p.script = append(slices.Clone(p.script[:p.place]), n)
		p.duels = append(slices.Clone(p.duels[:p.place+1]), after)
	}
	p.place++
	return api.OK
}

func (p *plain) has(place int) bool { return place >= 0 && place < len(p.duels) }

func (p *plain) to(place int) api.Errno {
	if !p.has(place) {
		return api.ErrArg
	}
	p.place = place
	return api.OK
}

func (p *plain) fork(place int) *plain {
	return &plain{slices.Clone(p.duels[:place+1]), slices.Clone(p.script[:place]), place}
}

// kept counts the places of which the duel is kept.
func (p *plain) kept() (n int) {
	for place := range p.duels {
		if place%16 == 0 {
			n++
		}
	}
	return n
}

// alike holds a trail against its second reading.
func alike(t *testing.T, what string, x *trail.Trail, p *plain) {
	t.Helper()
	if l, place := x.Script(); !slices.Equal(l, p.script) || place != p.place {
		t.Fatalf("%s: Script = %v, %d, not %v, %d", what, l, place, p.script, p.place)
	}
	if k := x.Kept(); k != p.kept() {
		t.Fatalf("%s: Kept = %d, not %d", what, k, p.kept())
	}
	if d := x.Duel(); !duel.Same(d, p.duels[p.place]) {
		t.Fatalf("%s: Duel = %+v, not %+v", what, d, p.duels[p.place])
	}
}

// lots draws beginnings and what is done with trails.
type lots struct{ *rand.Rand }

func (l lots) yes(of int) bool { return l.IntN(of) == 0 }

func (l lots) deck(kinds int) []int {
	var deck []int
	for range 10 + l.IntN(api.MaxDeck-9) {
		deck = append(deck, l.IntN(kinds))
	}
	return deck
}

// begun is a duel at any decision, some with other lives.
func (l lots) begun(t *testing.T, kinds []api.Card) api.Duel {
	t.Helper()
	d, e := duel.Begin(kinds, [2][]int{l.deck(len(kinds)), l.deck(len(kinds))})
	if e != api.OK {
		t.Fatal(e)
	}
	if l.yes(3) {
		d.Table.Life = [2]int{1 + l.IntN(3000), 1 + l.IntN(3000)}
	}
	for range l.IntN(3) * l.IntN(80) {
		if options := duel.Ask(d).Options; len(options) > 0 {
			d = behind(t, d, []int{l.IntN(len(options))})
		}
	}
	return d
}

// number is what is decided: the next decision once more often, now and then no option.
func (l lots) number(p *plain) int {
	if p.place < len(p.script) && !l.yes(12) {
		return p.script[p.place]
	}
	options := len(duel.Ask(p.duels[p.place]).Options)
	if options == 0 || l.yes(12) {
		return []int{-1, options, 1 << 40}[l.IntN(3)]
	}
	return l.IntN(options)
}

// moved does one thing with a trail and with its second reading, and tells which error there was.
func (l lots) moved(t *testing.T, x *trail.Trail, p *plain) api.Errno {
	t.Helper()
	if !l.yes(9) {
		n := l.number(p)
		e := p.do(n)
		answers(t, "Do", x.Do(n), e)
		return e
	}
	place := len(p.script) - l.IntN(40)
	if l.yes(5) {
		place = l.IntN(len(p.duels)+2) - 1
	}
	e := p.to(place)
	answers(t, "Go", x.Go(place), e)
	return e
}

// P24.1 to P24.4: trails by lot, by the second reading; some are forked and go on both, some are made anew of their scripts.
func TestByLot(t *testing.T) {
	lot, kinds, met, deepest := lots{rand.New(rand.NewPCG(24, 1))}, pool(t), map[api.Errno]int{}, 0
	for range 25 {
		first := lot.begun(t, kinds)
		x, e := trail.New(first)
		answers(t, "New", e, api.OK)
		p := &plain{duels: []api.Duel{first}}
		var other *trail.Trail
		var q *plain
		for range 350 {
			met[lot.moved(t, x, p)]++
			alike(t, "what is done", x, p)
			if other != nil && lot.yes(10) {
				lot.moved(t, other, q)
				alike(t, "the other one", other, q)
			}
			if lot.yes(40) {
				place := lot.IntN(len(p.duels))
				other, e = x.Fork(place)
				q = p.fork(place)
				answers(t, "Fork", e, api.OK)
				alike(t, "a fork", other, q)
				alike(t, "what it was forked of", x, p)
			}
			if lot.yes(60) {
				x, p = made(t, first, p.script), p.fork(len(p.script))
				alike(t, "Make", x, p)
			}
		}
		deepest = max(deepest, len(p.script))
	}
	if met[api.OK] < 4000 || met[api.ErrArg] < 100 || met[api.ErrState] < 5 || deepest < 80 {
		t.Errorf("answers: %v; %d decisions at most", met, deepest)
	}
}

// P24.4: what is shown at a place hangs on nothing that was done ahead: each place of a whole duel by lot, gone to in any order.
func TestEachPlace(t *testing.T) {
	lot, kinds := lots{rand.New(rand.NewPCG(24, 2))}, pool(t)
	for range 12 {
		first := lot.begun(t, kinds)
		p := &plain{duels: []api.Duel{first}}
		for options := duel.Ask(first).Options; len(options) > 0 && p.place < 200; options = duel.Ask(p.duels[p.place]).Options {
			answers(t, "do", p.do(lot.IntN(len(options))), api.OK)
		}
		x := made(t, first, p.script)
		for range 2 {
			for _, place := range lot.Perm(len(p.duels)) {
				answers(t, "Go", x.Go(place), p.to(place))
				alike(t, "Go", x, p)
			}
		}
	}
}

// P24.1: which decision of a script by lot is refused first.
func TestMakeByLot(t *testing.T) {
	lot, kinds, met := lots{rand.New(rand.NewPCG(24, 3))}, pool(t), map[api.Errno]int{}
	for range 60 {
		first := lot.begun(t, kinds)
		p := &plain{duels: []api.Duel{first}}
		for range 60 {
			p.do(lot.number(p))
		}
		script, n, want := slices.Clone(p.script), 0, api.OK
		for range lot.IntN(3) {
			script = slices.Insert(script, lot.IntN(len(script)+1), lot.IntN(6)-1)
		}
		for d := first; n < len(script); n++ {
			if d, want = duel.Decide(d, script[n]); want != api.OK {
				break
			}
		}
		met[want]++
		x, i, e := trail.Make(first, script)
		if i != n || e != want || (x == nil) != (e != api.OK) {
			t.Fatalf("Make(%v) = %v, %d, %d, not %d, %d", script, x, i, e, n, want)
		}
	}
	if met[api.OK] < 15 || met[api.ErrArg] < 10 {
		t.Errorf("answers: %v", met)
	}
}

// draw fills all that v is made of.
func (l lots) draw(v reflect.Value, kinds []api.Card) {
	switch v.Kind() {
	case reflect.Struct:
		for i := range v.NumField() {
			l.draw(v.Field(i), kinds)
		}
	case reflect.Slice:
		if v.Type() == reflect.TypeFor[[]api.Card]() {
			v.Set(reflect.ValueOf(kinds))
			return
		}
		size := l.IntN(6)
		v.Set(reflect.MakeSlice(v.Type(), size, size+l.IntN(3)))
		fallthrough
	case reflect.Array:
		for i := range v.Len() {
			l.draw(v.Index(i), kinds)
		}
	case reflect.Int:
		v.SetInt(int64(l.IntN(12) - 1))
		if l.yes(300) {
			v.SetInt(1<<31 + int64(l.IntN(3)-1))
		}
	case reflect.Uint8:
		v.SetUint(uint64(l.IntN(4)))
	case reflect.Bool:
		v.SetBool(l.yes(2))
	}
}

// P24.1 to P24.4: duels that were made otherwise, of whatever there may be in them.
func TestMadeOtherwise(t *testing.T) {
	lot, kinds, met := lots{rand.New(rand.NewPCG(24, 4))}, pool(t), map[api.Errno]int{}
	for range 1500 {
		var d api.Duel
		lot.draw(reflect.ValueOf(&d).Elem(), kinds)
		d.Stage = uint8(lot.IntN(9))
		_, want := save.Put(d)
		x, e := trail.New(d)
		answers(t, "New", e, want)
		if e != api.OK {
			met[api.ErrLimit]++
			continue
		}
		p := &plain{duels: []api.Duel{d}}
		for range 6 {
			met[lot.moved(t, x, p)]++
			alike(t, "what is done", x, p)
		}
	}
	if met[api.OK] < 500 || met[api.ErrArg] < 1000 || met[api.ErrState] < 1 || met[api.ErrLimit] < 50 {
		t.Errorf("answers: %v", met)
	}
}
