package save_test

import (
	"bytes"
	"math"
	"math/rand/v2"
	"reflect"
	"slices"
	"testing"

	"joust/api"
	"joust/duel"
	"joust/save"
)

// P23.1, P23.2: the chapter's examples.
func TestExamples(t *testing.T) {
	if a, b := save.Sum(nil), save.Sum([]byte("a")); a != 14695981039346656037 || b != 12638187200555641996 {
		t.Errorf("Sum = %d, %d", a, b)
	}
	zero, e := save.Put(api.Duel{})
	if e != api.OK || !bytes.Equal(zero, make([]byte, 37)) {
		t.Errorf("Put of a zero duel = %x, %d", zero, e)
	}
	if d, e := save.Get(zero); e != api.OK || !duel.Same(d, api.Duel{}) {
		t.Errorf("Get of a zero duel's bytes = %+v, %d", d, e)
	}
	for _, b := range [][]byte{nil, {}, append(zero, 0)} {
		if d, e := save.Get(b); e != api.ErrWord || !reflect.DeepEqual(d, api.Duel{}) {
			t.Errorf("Get(%x) = %+v, %d", b, d, e)
		}
	}
}

// P23.1: each field's bytes, by hand.
func TestFields(t *testing.T) {
	const text = "unit ogre 4 1800 7 { \nmust upon summon self needs ( not 0 ) picks 2 any row all : destroy ; \n} \nspell rain { \nplay : damage theirs 500 ; \n} \n"
	want := slices.Concat(
		[]byte{0x9a, 0x02}, []byte(text), // 141 bytes of kinds
		[]byte{4}, // two pieces
		[]byte{2, 4, 6, 8, 10, 12, 14, 1, 0, 16, 18, 1, 0, 20},
		[]byte{1, 0x90, 0x1c, 3, 0x90, 0x03, 2, 0x80, 0x01, 126, 0, 1, 0x81, 0x01, 0xfe, 0x03, 0, 1, 0xbd, 0x9a, 0x0c},
		[]byte{0x80, 0x7d, 0x98, 0x75, 6, 2, 0x8c, 0x01}, // lives, turn, player, moment
		[]byte{4, 2, 4, 1, 2, 6, 0x8a, 0x01, 8, 0},       // two events
		[]byte{1, 0},       // lost
		[]byte{6, 8, 1, 0}, // stage, then, second, summoned
		[]byte{4},          // two links
		[]byte{2, 4, 6}, []byte{6, 8, 9, 0xb0, 0x09}, []byte{4, 1},
		[]byte{0, 14, 0}, []byte{2, 16}, []byte{6, 0},
		[]byte{2, 16, 14, 12, 10},               // recent
		[]byte{4, 2, 18, 4, 1, 0, 6, 2, 0},      // waits
		[]byte{2, 4, 1, 0, 1, 1, 10, 1},         // asked, passes, due, trying, try, negated, attacker, target
		[]byte{4, 10, 0x84, 0x02},               // dies
		[]byte{4, 22, 24, 1}, []byte{4, 26, 28}, // the choice
		[]byte{0, 30, 2, 32, 8, 4}, // ordered, lots, whose, rounds, reason, winner
	)
	d := full(t)
	b, e := save.Put(d)
	if e != api.OK || !bytes.Equal(b, want) {
		t.Errorf("Put = %x, %d\nnot   %x", b, e, want)
	}
	if x, e := save.Get(want); e != api.OK || !reflect.DeepEqual(x, d) {
		t.Errorf("Get = %+v, %d\nnot %+v", x, e, d)
	}
	if save.Digest(d) != save.Sum(want) {
		t.Errorf("Digest = %d, not %d", save.Digest(d), save.Sum(want))
	}
}

// edges are numbers whose bytes are as many as can be, or as few, each with those beside it.
func edges() (l []int) {
	for _, n := range []int{0, 1 << 6, 1 << 13, 1 << 20, 1 << 27, 1 << 31} {
		for _, m := range []int{n - 1, n, n + 1, -n - 1, -n, -n + 1} {
			if -1<<31 <= m && m <= 1<<31 {
				l = append(l, m)
			}
		}
	}
	return l
}

// beyond are numbers that may not be saved; some of them, twice, are ones that may.
func beyond() []int {
	return []int{1<<31 + 1, -1<<31 - 1, 1 << 32, -1 << 32, 1<<62 + 3, -1<<62 - 3, 1<<63 - 1, math.MinInt, math.MinInt + 1, math.MinInt + 7}
}

// P23.1: each number at all edges, each truth, each small number.
func TestNumbers(t *testing.T) {
	d, count := full(t), 0
	leaves(reflect.ValueOf(&d).Elem(), "", func(path string, v reflect.Value) {
		count++
		was := reflect.New(v.Type()).Elem()
		was.Set(v)
		switch v.Kind() {
		case reflect.Int:
			for _, n := range edges() {
				v.SetInt(int64(n))
				if _, ok := saved(t, d); !ok {
					t.Errorf("%s = %d may not be saved", path, n)
				}
			}
			for _, n := range beyond() {
				v.SetInt(int64(n))
				if _, ok := saved(t, d); ok {
					t.Errorf("%s = %d may be saved", path, n)
				}
			}
		case reflect.Uint8:
			for n := range uint64(256) {
				v.SetUint(n)
				if _, ok := saved(t, d); !ok {
					t.Errorf("%s = %d may not be saved", path, n)
				}
			}
		case reflect.Bool:
			v.SetBool(!v.Bool())
			if _, ok := saved(t, d); !ok {
				t.Errorf("%s may not be saved", path)
			}
		}
		v.Set(was)
	})
	if count < 80 {
		t.Errorf("%d numbers and truths", count)
	}
}

// P23.3: duels that are others in one thing have other bytes.
func TestOthers(t *testing.T) {
	d := full(t)
	b, _ := save.Put(d)
	met := map[string]string{string(b): "nothing"}
	leaves(reflect.ValueOf(&d).Elem(), "", func(path string, v reflect.Value) {
		was := reflect.New(v.Type()).Elem()
		was.Set(v)
		switch v.Kind() {
		case reflect.Int:
			v.SetInt(v.Int() + 1)
		case reflect.Uint8:
			v.SetUint(uint64(uint8(v.Uint() + 1)))
		case reflect.Bool:
			v.SetBool(!v.Bool())
		}
		b, _ := save.Put(d)
		if other, ok := met[string(b)]; ok {
			t.Errorf("another %s is put as another %s is", path, other)
		}
		met[string(b)] = path
		v.Set(was)
	})
}

// P23.2: sums that are known, and by lot those of another reading.
func TestSum(t *testing.T) {
	for s, want := range map[string]uint64{"b": 0xaf63df4c8601f1a5, "foo": 0xdcb27518fed9d577, "foobar": 0x85944171f73967e8, "\x00": 0xaf63bd4c8601b7df, "\xff\x00\x00\x01": sum([]byte("\xff\x00\x00\x01"))} {
		if is := save.Sum([]byte(s)); is != want {
			t.Errorf("Sum(%q) = %x, not %x", s, is, want)
		}
	}
	lot := rand.New(rand.NewPCG(23, 1))
	for range 2000 {
		b := make([]byte, lot.IntN(200))
		for i := range b {
			b[i] = byte(lot.Uint32())
		}
		if save.Sum(b) != sum(b) {
			t.Fatalf("Sum(%x) = %d, not %d", b, save.Sum(b), sum(b))
		}
	}
	long := bytes.Repeat([]byte{1, 2, 3}, api.MaxBytes)
	if save.Sum(long) != sum(long) {
		t.Error("Sum of more than MaxBytes bytes")
	}
}

// P23.1: lists that are nil and lists without elements are the same.
func TestEmptyLists(t *testing.T) {
	d := api.Duel{Table: api.Table{Kinds: []api.Card{}, Pieces: []api.Piece{}, Events: []api.Event{}}, Links: []api.Link{}, Recent: []api.Event{}, Waits: []api.Ready{}, Dies: []int{}, Choice: api.Choice{Picks: []int{}}}
	if b, e := save.Put(d); e != api.OK || !bytes.Equal(b, make([]byte, 37)) || save.Digest(d) != save.Digest(api.Duel{}) {
		t.Errorf("Put = %x, %d", b, e)
	}
}
