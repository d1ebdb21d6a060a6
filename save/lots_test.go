package save_test

import (
	"bytes"
	"math/rand/v2"
	"reflect"
	"slices"
	"testing"

	"joust/api"
	"joust/check"
	"joust/duel"
	"joust/parse"
	"joust/save"
)

const poolText = `
unit ogre 4 1800 1000 { }
unit lord 6 2500 2000 { must upon summon self : destroy theirs back all ; if upon attack self : draw mine 1 ; }
unit imp 3 1000 1900 { swift picks 1 any row unit : bounce ; when upon destroy any : token mine 400 ; }
unit ghost 2 500 500 { act picks 1 any row unit : destroy ; if upon destroy self picks 1 any row all : bounce ; must upon destroy self : damage any 100 ; }
unit chief 4 900 900 { aura : boost 300 mine row unit ; act picks 2 any row unit : boost 500 ; if upon damage any : damage theirs (* 100 count mine row all) ; }
spell rain { play drops 1 : damage theirs 500 ; destroy theirs row all ; }
spell call { play picks 1 any grave unit : revive ; }
quick gust { play picks 1 any row all : bounce ; }
quick gale { play picks 1 theirs back all : banish ; }
trap rush { play upon summon any : token theirs 300 ; token mine 200 ; }
counter stop { play upon link theirs : negate ; }
counter bar { play upon try theirs : negate ; }
`

// pool is kinds that may be played.
func pool(t *testing.T) []api.Card {
	t.Helper()
	kinds, fault := parse.Pool(poolText)
	if i, e := check.Pool(kinds); fault.E != api.OK || e != api.OK {
		t.Fatalf("no pool: %v, %d: %d", fault, i, e)
	}
	return kinds
}

// lots draws duels, decks, decisions, and what is wrong with bytes.
type lots struct{ *rand.Rand }

func (l lots) yes(of int) bool { return l.IntN(of) == 0 }

// number is small mostly, and now and then one that may not be saved.
func (l lots) number() int {
	switch l.IntN(12) {
	case 0:
		return l.IntN(1<<20) - l.IntN(1<<20)
	case 1:
		return edges()[l.IntN(len(edges()))]
	case 2:
		if l.yes(600) {
			return beyond()[l.IntN(len(beyond()))]
		}
	}
	return l.IntN(8) - 1
}

// draw fills all that v is made of.
func (l lots) draw(v reflect.Value, kinds []api.Card) {
	switch v.Kind() {
	case reflect.Struct:
		for i := range v.NumField() {
			l.draw(v.Field(i), kinds)
		}
	case reflect.Slice:
		if v.Type() == reflect.TypeFor[[]api.Card]() {
			from := l.IntN(len(kinds) + 1)
			v.Set(reflect.ValueOf(kinds[from : from+l.IntN(len(kinds)-from+1)]))
			return
		}
		size := l.IntN(4)
		if l.yes(300) {
			size = 4096 + l.IntN(3) - 1
		}
		v.Set(reflect.MakeSlice(v.Type(), size, size+l.IntN(3)))
		fallthrough
	case reflect.Array:
		for i := range v.Len() {
			l.draw(v.Index(i), kinds)
		}
	case reflect.Int:
		v.SetInt(int64(l.number()))
	case reflect.Uint8:
		v.SetUint(uint64(l.IntN(4)))
		if l.yes(20) {
			v.SetUint(uint64(l.IntN(256)))
		}
	case reflect.Bool:
		v.SetBool(l.yes(2))
	}
}

// changed are bytes with some less, more, or else among them.
func (l lots) changed(b []byte) []byte {
	b = bytes.Clone(b)
	for range 1 + l.IntN(2) {
		at := l.IntN(len(b))
		switch l.IntN(4) {
		case 0:
			b = slices.Delete(b, at, min(len(b), at+1+l.IntN(2)))
		case 1:
			b = slices.Insert(b, at, byte(l.IntN(5)))
		case 2:
			b[at] ^= 1 << l.IntN(8)
		default:
			b[at] = byte(l.Uint32())
		}
		if len(b) == 0 {
			return b
		}
	}
	return b
}

// P23.1 to P23.3: duels of whatever there may be in them, by lot, and their bytes, changed, by the second reading.
func TestMadeByLot(t *testing.T) {
	lot, kinds := lots{rand.New(rand.NewPCG(23, 2))}, pool(t)
	may, count, met := [2]int{}, map[api.Errno]int{}, map[string]api.Duel{}
	for range 3000 {
		var d api.Duel
		lot.draw(reflect.ValueOf(&d).Elem(), kinds)
		b, ok := saved(t, d)
		if !ok {
			may[0]++
			continue
		}
		may[1]++
		if other, ok := met[string(b)]; ok && !duel.Same(other, d) {
			t.Fatalf("two duels have the bytes %x", b)
		}
		met[string(b)] = d
		for range 5 {
			got(t, count, lot.changed(b))
		}
	}
	if may[0] < 50 || may[1] < 2000 || count[api.OK] < 1000 || count[api.ErrWord] < 2000 {
		t.Errorf("%d duels that may be saved, %d that may not; bytes: %v", may[1], may[0], count)
	}
}

func (l lots) deck(kinds int) []int {
	var deck []int
	for range 10 + l.IntN(api.MaxDeck-9) {
		deck = append(deck, l.IntN(kinds))
	}
	return deck
}

// option is one by lot: one who is lazy mostly takes the last one; else a turn isn't ended, nor anything passed, as long as there is much else.
func (l lots) option(options []api.Option, lazy bool) int {
	n := l.IntN(len(options))
	if lazy && !l.yes(4) {
		return len(options) - 1
	}
	for range 2 {
		if do := options[n].Do; do == api.OpEnd || do == api.OpPass {
			n = l.IntN(len(options))
		}
	}
	return n
}

// back is the duel of the bytes of one.
func back(t *testing.T, d api.Duel) api.Duel {
	t.Helper()
	b, ok := saved(t, d)
	if !ok {
		t.Fatalf("may not be saved: %+v", d)
	}
	d, e := save.Get(b)
	if e != api.OK {
		t.Fatalf("Get(%x) = %d", b, e)
	}
	return d
}

// P0.6: duels by lot, of which one is saved and got back at each decision, and goes on as the other one does.
func TestPlayedByLot(t *testing.T) {
	lot, kinds, seen := lots{rand.New(rand.NewPCG(23, 3))}, pool(t), map[uint8]int{}
	for i := range 36 {
		d, e := duel.Begin(kinds, [2][]int{lot.deck(len(kinds)), lot.deck(len(kinds))})
		if e != api.OK {
			t.Fatal(e)
		}
		kept := back(t, d)
		for range 300 {
			seen[d.Stage]++
			p, q := duel.Ask(d), duel.Ask(kept)
			if p.Who != q.Who || p.Stage != q.Stage || !slices.Equal(p.Options, q.Options) {
				t.Fatalf("it is asked otherwise: %+v, not %+v", q, p)
			}
			if d.Stage == api.AtOver {
				break
			}
			n := lot.option(p.Options, i%3 == 0)
			if d, e = duel.Decide(d, n); e != api.OK {
				t.Fatal(e)
			}
			if kept, e = duel.Decide(kept, n); e != api.OK || !duel.Same(d, kept) || save.Digest(d) != save.Digest(kept) {
				t.Fatalf("it goes on otherwise, behind %v: %d, %+v, not %+v", p.Options[n], e, kept, d)
			}
			kept = back(t, kept)
		}
	}
	for stage := range uint8(api.AtOver + 1) {
		if seen[stage] < 10 {
			t.Errorf("stage %d: %d times", stage, seen[stage])
		}
	}
}
