package record_test

import (
	"math"
	"math/rand/v2"
	"regexp"
	"slices"
	"strconv"
	"strings"
	"testing"
	"time"

	"joust/api"
	"joust/record"
)

// got asks for the lines of a text, which is what is put of them.
func got(t *testing.T, text string, want ...api.Line) {
	t.Helper()
	l, e := record.Get(text)
	if e != api.OK || !slices.Equal(l, want) {
		t.Errorf("Get(%q) = %v, %d", text, l, e)
	}
	if s := record.Put(l); s != text {
		t.Errorf("Put(%v) = %q", l, s)
	}
}

// notGot asks for ErrArg, and no lines.
func notGot(t *testing.T, text string) {
	t.Helper()
	if l, e := record.Get(text); e != api.ErrArg || len(l) != 0 {
		t.Errorf("Get(%.60q) = %v, %d", text, l, e)
	}
}

// P19.2: lines, and what they are told as.
func TestTexts(t *testing.T) {
	got(t, "")
	got(t, "0 0 -\n", refused(0, 0))
	got(t, "1 7 -\n", refused(1, api.AtOver))
	got(t, "0 0 12 -1 39\n", line(0, api.AtLot, api.OpLot, -1, 39))
	got(t, "0 0 0 0 0\n", line(0, 0, 0, 0, 0))
	got(t, "1 255 255 99999 99999\n", line(1, 255, 255, api.MaxNumber, api.MaxNumber))
	got(t, "1 255 -\n", refused(1, 255))
	got(t, "0 1 9 -1 -1\n0 1 -\n1 10 100 1000 10000\n1 3 -\n", line(0, 1, 9, -1, -1), refused(0, 1), line(1, 10, 100, 1000, 10000), refused(1, 3))
}

// P19.2: numbers of any size are put; of what is refused the option isn't.
func TestPutAny(t *testing.T) {
	for want, l := range map[string]api.Line{
		"255 255 255 -9223372036854775808 9223372036854775807\n": line(255, 255, 255, math.MinInt, math.MaxInt),
		"2 0 0 100000 -2\n": line(2, 0, 0, 100000, -2),
		"9 8 -\n":           {Who: 9, Stage: 8, Option: option(7, 6, 5), Refused: true},
	} {
		if s := record.Put([]api.Line{l}); s != want {
			t.Errorf("Put(%v) = %q", l, s)
		}
		if s := record.Put([]api.Line{l, l, l}); s != want+want+want {
			t.Errorf("Put(%v thrice) = %q", l, s)
		}
	}
	if record.Put(nil) != "" || record.Put([]api.Line{}) != "" {
		t.Error("Put of no lines")
	}
}

// P19.2: each number from both sides of its bounds.
func TestBounds(t *testing.T) {
	may := [][2]int{{0, 1}, {0, 255}, {0, 255}, {-1, api.MaxNumber}, {-1, api.MaxNumber}}
	for i, m := range may {
		for _, n := range []int{math.MinInt, -256, -2, -1, 0, 1, 2, 9, 10, 99, 255, 256, 257, 512, 99999, 100000, math.MaxInt} {
			words := []string{"0", "0", "0", "0", "0"}
			words[i] = strconv.Itoa(n)
			text := strings.Join(words, " ") + "\n"
			if n < m[0] || n > m[1] {
				notGot(t, text)
			} else if l, e := record.Get(text); e != api.OK || len(l) != 1 || record.Put(l) != text {
				t.Errorf("Get(%q) = %v, %d", text, l, e)
			}
			if text = words[0] + " " + words[1] + " -\n"; i < 2 && (n < m[0] || n > m[1]) {
				notGot(t, text)
			} else if l, e := record.Get(text); e != api.OK || len(l) != 1 || !l[0].Refused {
				t.Errorf("Get(%q) = %v, %d", text, l, e)
			}
		}
	}
}

// P19.2: what is no such text, wherever it stands.
func TestWrongTexts(t *testing.T) {
	for _, text := range []string{
		"\n", " \n", "-\n", "0 -\n", "0\n", "0 0\n", "0 0 0\n", "0 0 0 0\n", "0 0 0 0 0 0\n", "0 0 - 0 0\n", "0 0 - -\n", "0 0 0 - 0\n", "0 0 0 0 -\n", "0 - 0 0 0\n", "- 0 -\n",
		"00 0 -\n", "01 0 -\n", "0 00 -\n", "0 007 -\n", "-0 0 -\n", "0 -0 -\n", "0 0 00 0 0\n", "0 0 0 00 0\n", "0 0 0 0 00\n", "0 0 0 -0 0\n", "0 0 0 0 -0\n", "0 0 0 -01 0\n", "0 0 0 0 -01\n", "+0 0 -\n", "0 +1 -\n", "0 0 0 +1 0\n", "0 0 0 0 +1\n", "0 0 0 --1 0\n",
		"0x0 0 -\n", "0 0 0 1_0 0\n", "0 0 0 0x1 0\n", "0 0 0 1e3 0\n", "0 0 0 1.0 0\n", "0 0 0 99999999999999999999 0\n", "0 0 0 0 -99999999999999999999\n", "0 0 x\n", "x 0 -\n", "0 0 --\n", "0 0 \u2212\n", "\u0660 0 -\n", "0 0 \xff\n",
		" 0 0 -\n", "0 0 - \n", "0  0 -\n", "0 0  -\n", "0\t0 -\n", "0 0\v-\n", "0 0 -\r\n", "0 0 -\f\n", "0\u00a00 -\n", "0 0\u0085-\n", "\ufeff0 0 -\n", "0\u20280 -\n", "0 0\x00-\n",
	} {
		notGot(t, text)
		notGot(t, "0 0 -\n"+text)
		notGot(t, text+"0 0 -\n")
		notGot(t, "1 2 3 4 5\n"+text+"0 0 -\n")
	}
	for _, text := range []string{"0 0 -", "0 0 12 -1 0", "0 0 -\n0 0 -", "0 0 -\n\n", "0 0 -\r", "0 0 -\n ", "0 0 -\n\x00", "\r0 0 -\n"} {
		notGot(t, text)
	}
}

// form is a second reading of texts, but for what their numbers come to.
var form = regexp.MustCompile(`^(([0-9]|[1-9][0-9]+) ([0-9]|[1-9][0-9]+) (-|([0-9]|[1-9][0-9]+) (-1|[0-9]|[1-9][0-9]+) (-1|[0-9]|[1-9][0-9]+))\n)*$`)

// mayBe tells by the second reading whether a text is one of a record.
func mayBe(text string) bool {
	if len(text) > api.MaxText || !form.MatchString(text) {
		return false
	}
	for l := range strings.SplitSeq(text, "\n") {
		for i, word := range strings.Split(l, " ") {
			n, _ := strconv.Atoi(word)
			if n > []int{1, 255, 255, api.MaxNumber, api.MaxNumber}[i] {
				return false
			}
		}
	}
	return true
}

// reads asks for what the second reading says of a text.
func reads(t *testing.T, seen map[bool]int, text string) {
	t.Helper()
	may := mayBe(text)
	seen[may]++
	if !may {
		notGot(t, text)
	} else if l, e := record.Get(text); e != api.OK || record.Put(l) != text || len(l) != strings.Count(text, "\n") {
		t.Errorf("Get(%q) = %v, %d", text, l, e)
	}
}

// P19.2: all texts that are one byte away from some, against the second reading.
func TestChangedTexts(t *testing.T) {
	seen := map[bool]int{}
	for _, text := range []string{"0 0 12 -1 0\n1 3 -\n0 255 11 99999 10\n", "1 25 -\n0 0 -\n", "1 1 0 0 -1\n"} {
		reads(t, seen, text)
		for i := range len(text) + 1 {
			for b := range 256 {
				reads(t, seen, text[:i]+string([]byte{byte(b)})+text[i:])
				if i < len(text) {
					reads(t, seen, text[:i]+string([]byte{byte(b)})+text[i+1:])
				}
			}
			if i < len(text) {
				reads(t, seen, text[:i]+text[i+1:])
			}
		}
	}
	if seen[true] < 300 || seen[false] < 10000 {
		t.Errorf("read: %v", seen)
	}
}

// P19.2: all short texts of some bytes, against the second reading.
func TestShortTexts(t *testing.T) {
	seen := map[bool]int{}
	const bytes = "012- \n"
	for size := range 8 {
		count := 1
		for range size {
			count *= len(bytes)
		}
		for n := range count {
			text := make([]byte, size)
			for i := range text {
				text[i] = bytes[n%len(bytes)]
				n /= len(bytes)
			}
			reads(t, seen, string(text))
		}
	}
	if seen[true] < 15 || seen[false] < 100000 {
		t.Errorf("read: %v", seen)
	}
}

// P19.2: a text of MaxText bytes is read, a longer one isn't.
func TestLongTexts(t *testing.T) {
	full := strings.Repeat("0 0 -\n", 10918) + strings.Repeat("0 10 -\n", 4)
	if len(full) != api.MaxText {
		t.Fatalf("%d bytes", len(full))
	}
	if l, e := record.Get(full); e != api.OK || len(l) != 10922 || record.Put(l) != full {
		t.Errorf("Get: %d", e)
	}
	notGot(t, full+"0 0 -\n")
	notGot(t, full[6:]+"0 10 -\n")
	notGot(t, strings.Repeat("0 0 12 -1 0\n", 1<<20))
	notGot(t, strings.Repeat("0 ", api.MaxText/2))
	notGot(t, strings.Repeat(" ", api.MaxText-1)+"\n")
	notGot(t, strings.Repeat("\n", api.MaxText))
}

// P19.3: lines by lot, whose numbers are in their bounds and of which what is refused is nothing, are got when they are put; lists of them share no memory.
func TestPutIsGot(t *testing.T) {
	lot := lots{rand.New(rand.NewPCG(19, 1))}
	sizes := []int{1, 10, 256}
	for range 2000 {
		var l []api.Line
		for range lot.IntN(30) {
			x := line(uint8(lot.IntN(2)), uint8(lot.IntN(256)), uint8(lot.IntN(sizes[lot.IntN(3)])), lot.IntN(api.MaxNumber+2)-1, lot.IntN(12)-1)
			if lot.yes(3) {
				x = refused(x.Who, x.Stage)
			}
			l = append(l, x)
		}
		was := slices.Clone(l)
		text := record.Put(l)
		a, e := record.Get(text)
		b, _ := record.Get(text)
		if e != api.OK || !slices.Equal(a, was) || !slices.Equal(l, was) {
			t.Fatalf("Get(%q) = %v, %d", text, a, e)
		}
		for i := range a[:cap(a)] {
			a[:cap(a)][i].Who += 3
		}
		if c, _ := record.Get(text); !slices.Equal(b, was) || !slices.Equal(c, was) {
			t.Fatalf("%q: lists share memory", text)
		}
	}
}

// Rule 1: long lists and texts end soon.
func TestLongLists(t *testing.T) {
	start := time.Now()
	if s := record.Put(make([]api.Line, 1<<20)); len(s) != 10<<20 {
		t.Errorf("%d bytes", len(s))
	}
	if d := time.Since(start); d > 20*time.Second {
		t.Errorf("it took %v", d)
	}
}
