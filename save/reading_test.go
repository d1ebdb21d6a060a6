package save_test

import (
	"bytes"
	"encoding/binary"
	"hash/fnv"
	"reflect"
	"testing"

	"joust/api"
	"joust/duel"
	"joust/parse"
	"joust/print"
	"joust/save"
)

// A second reading of the chapter, by the types alone: whatever api's fields are, they are gone through in their order.

// written are the bytes of v, if it may be saved.
func written(v reflect.Value) ([]byte, bool) {
	if l, isKinds := v.Interface().([]api.Card); isKinds {
		text, e := print.Pool(l)
		return append(number(len(text)), text...), e == api.OK
	}
	var b []byte
	parts, ok := 0, true
	switch v.Kind() {
	case reflect.Struct:
		parts = v.NumField()
	case reflect.Slice:
		parts, ok, b = v.Len(), v.Len() <= 4096, number(v.Len())
	case reflect.Array:
		parts = v.Len()
	case reflect.Int:
		return number(int(v.Int())), -2147483648 <= v.Int() && v.Int() <= 2147483648
	case reflect.Uint8:
		return number(int(v.Uint())), true
	case reflect.Bool:
		return map[bool][]byte{false: {0}, true: {1}}[v.Bool()], true
	}
	for i := 0; ok && i < parts; i++ {
		var part []byte
		if v.Kind() == reflect.Struct {
			part, ok = written(v.Field(i))
		} else {
			part, ok = written(v.Index(i))
		}
		b = append(b, part...)
	}
	return b, ok
}

func number(n int) []byte { return binary.AppendVarint(nil, int64(n)) }

// fill puts into v what may stand in the bytes, and tells what is left of them. It takes much that is wrong.
func fill(b []byte, v reflect.Value) ([]byte, bool) {
	if v.Type() == reflect.TypeFor[[]api.Card]() {
		n, size := binary.Varint(b)
		if size <= 0 || n < 0 || int(n) > len(b)-size {
			return nil, false
		}
		l, fault := parse.Pool(string(b[size : size+int(n)]))
		v.Set(reflect.ValueOf(l))
		return b[size+int(n):], fault.E == api.OK
	}
	ok := true
	switch v.Kind() {
	case reflect.Struct:
		for i := 0; ok && i < v.NumField(); i++ {
			b, ok = fill(b, v.Field(i))
		}
		return b, ok
	case reflect.Slice:
		n, size := binary.Varint(b)
		if size <= 0 || n < 0 || int(n) > len(b) {
			return nil, false
		}
		b = b[size:]
		v.Set(reflect.MakeSlice(v.Type(), int(n), int(n)))
		fallthrough
	case reflect.Array:
		for i := 0; ok && i < v.Len(); i++ {
			b, ok = fill(b, v.Index(i))
		}
		return b, ok
	case reflect.Bool:
		if len(b) == 0 {
			return nil, false
		}
		v.SetBool(b[0] == 1)
		return b[1:], true
	}
	n, size := binary.Varint(b)
	if size <= 0 {
		return nil, false
	}
	if v.Kind() == reflect.Int {
		v.SetInt(n)
	} else {
		v.SetUint(uint64(uint8(n)))
	}
	return b[size:], true
}

// read is the duel of these bytes: the one whose bytes they are.
func read(b []byte) (api.Duel, bool) {
	var d api.Duel
	if _, ok := fill(b, reflect.ValueOf(&d).Elem()); !ok {
		return api.Duel{}, false
	}
	again, ok := written(reflect.ValueOf(d))
	return d, ok && bytes.Equal(again, b)
}

func sum(b []byte) uint64 {
	h := fnv.New64a()
	h.Write(b)
	return h.Sum64()
}

// saved asks what Put and Digest answer of a duel, and what Get then does: P23.1 to P23.3. It tells the bytes, or that it may not be saved.
func saved(t *testing.T, d api.Duel) ([]byte, bool) {
	t.Helper()
	want, may := written(reflect.ValueOf(d))
	b, e := save.Put(d)
	digest := save.Digest(d)
	switch {
	case !may:
		if e != api.ErrArg || len(b) != 0 || digest != 0 {
			t.Fatalf("what may not be saved: Put = %d bytes, %d; Digest = %d", len(b), e, digest)
		}
		return nil, false
	case len(want) > api.MaxBytes:
		if e != api.ErrArg || len(b) != 0 || digest != sum(want) {
			t.Fatalf("of %d bytes: Put = %d bytes, %d; Digest = %d", len(want), len(b), e, digest)
		}
		return nil, false
	case e != api.OK || !bytes.Equal(b, want) || digest != sum(want):
		t.Fatalf("Put = %x, %d; Digest = %d; not %x, %d", b, e, digest, want, sum(want))
	}
	if x, e := save.Get(b); e != api.OK || !duel.Same(x, d) {
		t.Fatalf("Get(%x) = %+v, %d; not %+v", b, x, e, d)
	}
	return b, true
}

// got asks what Get answers of some bytes, by the second reading, and counts the answers.
func got(t *testing.T, count map[api.Errno]int, b []byte) {
	t.Helper()
	d, e := save.Get(b)
	count[e]++
	want, ok := read(b)
	if !ok {
		if e != api.ErrWord || !reflect.DeepEqual(d, api.Duel{}) {
			t.Fatalf("Get(%x) = %+v, %d; not ErrWord", b, d, e)
		}
		return
	}
	if e != api.OK || !duel.Same(d, want) {
		t.Fatalf("Get(%x) = %+v, %d; not %+v", b, d, e, want)
	}
	if again, e := save.Put(d); e != api.OK || !bytes.Equal(again, b) {
		t.Fatalf("%x, got and put, is %x, %d", b, again, e)
	}
}

// leaves calls f with each number and each truth in v that is no kind's.
func leaves(v reflect.Value, path string, f func(path string, v reflect.Value)) {
	switch v.Kind() {
	case reflect.Struct:
		for i := range v.NumField() {
			leaves(v.Field(i), path+"."+v.Type().Field(i).Name, f)
		}
	case reflect.Array, reflect.Slice:
		if v.Type() == reflect.TypeFor[[]api.Card]() {
			return
		}
		for i := range v.Len() {
			leaves(v.Index(i), path, f)
		}
	default:
		f(path, v)
	}
}

// lists calls f with each list in v that is no kind's.
func lists(v reflect.Value, path string, f func(path string, v reflect.Value)) {
	switch v.Kind() {
	case reflect.Struct:
		for i := range v.NumField() {
			lists(v.Field(i), path+"."+v.Type().Field(i).Name, f)
		}
	case reflect.Slice:
		if v.Type() == reflect.TypeFor[[]api.Card]() {
			return
		}
		f(path, v)
		for i := range v.Len() {
			lists(v.Index(i), path, f)
		}
	}
}

// full is a duel in which no list is empty, and no two neighbours are alike.
func full(t *testing.T) api.Duel {
	t.Helper()
	kinds, fault := parse.Pool("unit ogre 4 1800 7 { must upon summon self needs (not 0) picks 2 any row all : destroy ; } spell rain { play : damage theirs 500 ; }")
	if fault.E != api.OK {
		t.Fatal(fault)
	}
	return api.Duel{
		Table: api.Table{
			Kinds: kinds,
			Pieces: []api.Piece{
				{Def: 1, Attack: 2, Guard: 3, Owner: 4, Has: 5, Zone: 6, At: 7, Up: true, Since: 8, Used: 9, Struck: true, Boost: 10},
				{Def: -1, Attack: 1800, Guard: -2, Owner: 200, Has: 1, Zone: 64, At: 63, Low: true, Since: -65, Used: 255, Turned: true, Boost: -99999},
			},
			Life: [2]int{8000, 7500}, Turn: 3, Player: 1, Moment: 70,
			Events: []api.Event{{Ev: 1, Moment: 2, Piece: -1, Who: 1}, {Ev: 3, Moment: 69, Piece: 4}},
			Lost:   [2]bool{true, false},
		},
		Stage: 3, Then: 4, Second: true,
		Links:  []api.Link{{Who: 1, Piece: 2, Effect: 3, Picks: []int{4, -5, 600}, Speed: 2, Dead: true}, {Piece: 7, Picks: []int{8}, Speed: 3}},
		Recent: []api.Event{{Ev: 8, Moment: 7, Piece: 6, Who: 5}},
		Waits:  []api.Ready{{Who: 1, Piece: 9, Effect: 2, Must: true}, {Piece: 3, Effect: 1}},
		Asked:  1, Passes: 2, Due: true, Try: -1, Negated: true, Attacker: 5, Target: -1,
		Dies:   []int{5, 130},
		Choice: api.Choice{Ready: api.Ready{Who: 2, Piece: 11, Effect: 12, Must: true}, Picks: []int{13, 14}},
		Lots:   15, Whose: 1, Rounds: 16, Reason: 4, Winner: 2,
	}
}
