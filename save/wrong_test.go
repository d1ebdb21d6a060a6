package save_test

import (
	"bytes"
	"reflect"
	"slices"
	"strings"
	"testing"

	"joust/api"
	"joust/duel"
	"joust/save"
)

// wrong asks for ErrWord, and no duel.
func wrong(t *testing.T, what string, b []byte) {
	t.Helper()
	if d, e := save.Get(b); e != api.ErrWord || !reflect.DeepEqual(d, api.Duel{}) {
		t.Errorf("%s: Get(%x) = %+v, %d", what, b, d, e)
	}
}

// P23.3: no beginning of a duel's bytes is one's, nor are they with something behind.
func TestBeginnings(t *testing.T) {
	for _, d := range []api.Duel{{}, full(t), of(api.Card{Name: "a"}), {Dies: make([]int, 300)}} {
		b, ok := saved(t, d)
		if !ok {
			t.Fatal("no bytes")
		}
		for i := range b {
			wrong(t, "a beginning", b[:i])
		}
		for i := range 256 {
			wrong(t, "a byte more", append(slices.Clip(b), byte(i)))
		}
		wrong(t, "twice", slices.Concat(b, b))
	}
}

// P23.1: each byte of a duel's, as each other one, left out, or with another one ahead of it.
func TestChangedBytes(t *testing.T) {
	d, count := full(t), map[api.Errno]int{}
	d.Table.Kinds = of(api.Card{Name: "a", Effects: []api.Effect{{Mode: api.If, Pay: 3}}}).Table.Kinds
	whole, _ := saved(t, d)
	for at := range whole {
		for n := range 256 {
			b := bytes.Clone(whole)
			b[at] = byte(n)
			got(t, count, b)
		}
		got(t, count, slices.Delete(bytes.Clone(whole), at, at+1))
		for _, n := range []byte{0, 1, 2, 127, 128, 129, 255, '0', ' ', 'a'} {
			got(t, count, slices.Insert(bytes.Clone(whole), at, n))
		}
	}
	if count[api.OK] < 5000 || count[api.ErrWord] < 20000 || len(count) != 2 {
		t.Errorf("answers: %v", count)
	}
}

// zeroes are the bytes of a zero duel, in which some stand for the one at a place.
func zeroes(at int, some ...byte) []byte {
	return slices.Concat(make([]byte, at), some, make([]byte, 36-at))
}

// Which of a zero duel's bytes is what.
const (
	atKinds  = 0
	atPieces = 1
	atLife   = 2
	atPlayer = 5
	atLost   = 8
	atSecond = 12
	atLinks  = 14
	atPasses = 18
	atDies   = 25
	atWinner = 36
)

// P23.1: numbers as short as can be, within their bounds.
func TestWrongNumbers(t *testing.T) {
	for _, at := range []int{atLife, atPasses} {
		for n, some := range map[int][]byte{64: {0x80, 1}, -64: {127}, 1 << 31: {0x80, 0x80, 0x80, 0x80, 0x10}, -1 << 31: {0xff, 0xff, 0xff, 0xff, 0x0f}} {
			d, e := save.Get(zeroes(at, some...))
			if is := max(d.Passes, d.Table.Life[0]) + min(d.Passes, d.Table.Life[0]); e != api.OK || is != n {
				t.Errorf("%x: %d, %d; not %d", some, is, e, n)
			}
		}
		for _, some := range [][]byte{
			{0x80, 0}, {0x81, 0}, {0xff, 0}, {0x80, 0x80, 0}, {0x82, 0x80, 0}, {0x80, 0x80, 0x80, 0x80, 0}, {0xff, 0xff, 0xff, 0xff, 0},
			{0x81, 0x80, 0x80, 0x80, 0x10}, // -2^31 - 1
			{0x82, 0x80, 0x80, 0x80, 0x10}, // 2^31 + 1
			{0x80, 0x80, 0x80, 0x80, 0x20}, {0xff, 0xff, 0xff, 0xff, 0x7f},
			{0x80, 0x80, 0x80, 0x80, 0x90, 0}, {0x80, 0x80, 0x80, 0x80, 0x80, 0}, {0x80, 0x80, 0x80, 0x80, 0x80, 1},
			{0x82, 0x80, 0x80, 0x80, 0x80, 0x80, 0x80, 0x80, 0x80, 0x80, 1}, // 2, but for what lies above 64 bits
			{0x82, 0x80, 0x80, 0x80, 0x80, 0x80, 0x80, 0x80, 0x80, 2},
			{0xff, 0xff, 0xff, 0xff, 0xff, 0xff, 0xff, 0xff, 0xff, 1},
			bytes.Repeat([]byte{0x80}, 300), append(bytes.Repeat([]byte{0x80}, 300), 1),
		} {
			wrong(t, "a number", zeroes(at, some...))
		}
	}
}

// P23.1: small numbers are 0 to 255, truths 0 or 1.
func TestWrongSmallOnes(t *testing.T) {
	for _, at := range []int{atPlayer, atWinner} {
		for n := -300; n < 700; n++ {
			d, e := save.Get(zeroes(at, number(n)...))
			if is := int(d.Winner) + int(d.Table.Player); 0 <= n && n <= 255 && (e != api.OK || is != n) {
				t.Errorf("%d: %d, %d", n, is, e)
			}
			if n < 0 || n > 255 {
				wrong(t, "a small number", zeroes(at, number(n)...))
			}
		}
	}
	for _, at := range []int{atLost, atLost + 1, atSecond} {
		d, e := save.Get(zeroes(at, 1))
		if e != api.OK || d.Second != (at == atSecond) || d.Table.Lost != [2]bool{at == atLost, at == atLost+1} {
			t.Errorf("a truth: %+v, %d", d, e)
		}
		for n := 2; n < 256; n++ {
			wrong(t, "a truth", zeroes(at, byte(n)))
		}
		wrong(t, "a truth", zeroes(at, 0x80, 0))
		wrong(t, "a truth", zeroes(at, 0x81, 0))
	}
}

// P23.1: a list has as many things as it says, 0 to 4096.
func TestWrongLists(t *testing.T) {
	for n := range 200 {
		if d, e := save.Get(zeroes(atDies, slices.Concat(number(n), make([]byte, n))...)); e != api.OK || len(d.Dies) != n {
			t.Errorf("%d die: %d, %d", n, len(d.Dies), e)
		}
		wrong(t, "a list of less than none", zeroes(atDies, number(-1-n)...))
		wrong(t, "too few", zeroes(atDies, slices.Concat(number(n+1), make([]byte, n))...))
		wrong(t, "too many", zeroes(atDies, slices.Concat(number(n), make([]byte, n+1))...))
	}
	for at, size := range map[int]int{atPieces: 14, atLinks: 6, atDies: 1} {
		for n, want := range map[int]api.Errno{4095: api.OK, 4096: api.OK, 4097: api.ErrWord, 5000: api.ErrWord} {
			b := zeroes(at, slices.Concat(number(n), make([]byte, n*size))...)
			if d, e := save.Get(b); e != want || e == api.OK && len(d.Table.Pieces)+len(d.Links)+len(d.Dies) != n {
				t.Errorf("a list of %d things: %d", n, e)
			}
		}
		for _, n := range []int{4097, 1 << 20, 1 << 31, 1<<31 + 1, 1 << 62, -1 << 31, -1 << 63} {
			wrong(t, "a long list", zeroes(at, number(n)...))
		}
		wrong(t, "a list's size", zeroes(at, 0x80, 0))
		wrong(t, "a list's size", zeroes(at, 0x82, 0, 0, 0, 0, 0, 0, 0, 0, 0, 0, 0, 0, 0, 0))
	}
	picks := slices.Concat(number(4096), times(4096, byte(2)))
	ten := slices.Concat(number(10), bytes.Repeat(slices.Concat([]byte{0, 0, 0}, picks, []byte{0, 0}), 10))
	if d, e := save.Get(zeroes(atLinks, ten...)); e != api.OK || len(d.Links) != 10 || len(d.Links[9].Picks) != 4096 || d.Links[9].Picks[4095] != 1 {
		t.Errorf("ten links of 4096 picks: %d", e)
	}
	picks = slices.Concat(number(4097), times(4097, byte(2)))
	wrong(t, "4097 picks", zeroes(atLinks, slices.Concat(number(1), []byte{0, 0, 0}, picks, []byte{0, 0})...))
}

// P23.1: kinds are the text that print writes, no other one, also if it is read as kinds.
func TestWrongKinds(t *testing.T) {
	with := func(text string) []byte { return zeroes(atKinds, slices.Concat(number(len(text)), []byte(text))...) }
	const rain = "spell rain { \nplay pays 7 : damage theirs 500 ; \n} \n"
	if d, e := save.Get(with(rain)); e != api.OK || len(d.Table.Kinds) != 1 || d.Table.Kinds[0].Effects[0].Pay != 7 {
		t.Errorf("Get = %+v, %d", d, e)
	}
	for _, text := range []string{
		" ", "\n", "# none", "x", "\x00", "é", "\xff", rain + " ", rain + "\n", " " + rain, "\n" + rain, rain + "# more",
		strings.TrimSpace(rain), rain[:len(rain)-1], rain[:len(rain)-2] + "\n", rain[1:], rain + "spell", rain + "3",
		strings.ReplaceAll(rain, " \n", "\n"), strings.ReplaceAll(rain, "\n", ""), strings.ReplaceAll(rain, " ", "  "), strings.ReplaceAll(rain, "\n", "\r\n"), strings.ReplaceAll(rain, " ", "\t"),
		strings.Replace(rain, "7", "07", 1), strings.Replace(rain, "7", "0", 1), strings.Replace(rain, "7", "-7", 1), strings.Replace(rain, "7", "100000", 1),
		strings.Replace(rain, "pays 7", "drops 0", 1), strings.Replace(rain, "pays 7", "needs 1pays 7", 1), strings.Replace(rain, "pays 7", "picks 0 mine deck all pays 7", 1), strings.Replace(rain, "pays 7", "pays 7 picks 0 mine deck all", 1),
		strings.Replace(rain, "rain", "3", 1), strings.Replace(rain, "rain", strings.Repeat("a", api.MaxWord+1), 1), strings.Replace(rain, "rain", "ra in", 1),
		strings.Repeat("trap a { \n} \n", api.MaxKinds+1),
		strings.Repeat(" ", api.MaxText), strings.Repeat(" ", api.MaxText+1), rain + strings.Repeat(" ", api.MaxText),
	} {
		wrong(t, "kinds", with(text))
	}
	for _, n := range []int{-1, -2, -1 << 31, len(rain) - 1, len(rain) + 1, len(rain) + 36, len(rain) + 37, 1 << 20, 1 << 31, 1<<31 + 1, 1 << 62, -1 << 63} {
		wrong(t, "kinds", zeroes(atKinds, slices.Concat(number(n), []byte(rain))...))
	}
	wrong(t, "kinds", zeroes(atKinds, 0x80, 0))
	wrong(t, "kinds", zeroes(atKinds, slices.Concat([]byte{byte(2*len(rain)) | 0x80, 0x80}, []byte(rain))...))
}

// P23.1: texts of kinds with something else at each place, by the second reading.
func TestChangedKinds(t *testing.T) {
	d, count := full(t), map[api.Errno]int{}
	b, _ := saved(t, api.Duel{Table: api.Table{Kinds: d.Table.Kinds}})
	text := string(b[2 : len(b)-36])
	for at := range text {
		for _, other := range []string{"", " ", "\n", "0", "1", "9", "a", "-", ";", "{", "}", "(", "#", "é", "  "} {
			changed := text[:at] + other + text[at+1:]
			got(t, count, zeroes(atKinds, slices.Concat(number(len(changed)), []byte(changed))...))
			changed = text[:at] + other + text[at:]
			got(t, count, zeroes(atKinds, slices.Concat(number(len(changed)), []byte(changed))...))
		}
	}
	if count[api.OK] < 100 || count[api.ErrWord] < 3000 || len(count) != 2 {
		t.Errorf("answers: %v", count)
	}
	if x, e := save.Get(b); e != api.OK || !duel.Same(x, api.Duel{Table: api.Table{Kinds: d.Table.Kinds}}) {
		t.Errorf("Get = %d", e)
	}
}
