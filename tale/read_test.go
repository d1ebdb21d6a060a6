package tale_test

import (
	"regexp"
	"strconv"
	"strings"
	"testing"

	"joust/api"
	"joust/tale"
)

// faulty asks for an error at a byte, and no tale.
func faulty(t *testing.T, s string, at int, e api.Errno) {
	t.Helper()
	if l, i, f := tale.Read(s); i != at || f != e || len(l) != 0 {
		t.Errorf("Read(%.80q) = %d nodes, %d, %d; not %d, %d", s, len(l), i, f, at, e)
	}
}

// P22.1: each kind of wrong text, and at which byte.
func TestFaults(t *testing.T) {
	for s, at := range map[string]int{
		// what may not stand there
		" ": 0, "  1": 0, "x": 0, "(1)": 0, ")": 0, "{ a }": 0, "-1": 0, "+1": 0, "\n1": 0, "\x00": 0, "é": 0, "\xff": 0, "\u0661": 0,
		"1  2": 2, "1x": 1, "1\n": 1, "1\t2": 1, "1)": 1, "1(2)": 1, "1{ a }": 1, "1 )": 2, "1 }": 2, "1 -2": 2, "1 x": 2, "1 2)": 3, "1 2x": 3,
		"1 ( 2)": 3, "1 ()": 3, "1 ((2))": 3, "1 ({ a })": 3, "1 (2 )": 5, "1 (2))": 5, "1 (2)3": 5, "1 (2)(3)": 5, "1 (2) )": 6, "1 (2)  3": 6, "1 (2) { a }": 6, "1 (2 (3))": 5, "1 (2 { a } (3))": 11,
		"1 2 (3) (4) 5 (6 7 (8 (9)))": 22,
		"1 { a }2":                    7, "1 { a }(2)": 7, "1 { a } { b }": 8, "1 { a }  2": 8, "1 { a } }": 8, "1 (2 { a }3)": 10, "1.5": 1, "1,2": 1, "1\u00a02": 1, "1\xff": 1,
		// what is missing, at the end
		"1 ": 2, "1 (": 3, "1 (2": 4, "1 (2 ": 5, "1 (2 3": 6, "1 (2) ": 6, "1 (2 3 (4)": 10, "1 (2 3 (4": 9, "1 {": 3, "1 { ": 4, "1 { a": 5, "1 { a ": 6, "1 { a } ": 8, "1 { a } (": 9, "1 (2 { a }": 10, "1 {a": 4, "1 {  ": 5,
		// numbers
		"01": 0, "00": 0, "007": 0, "01x": 0, "100000": 0, "100000x": 0, "99999999999999999999": 0, "18446744073709551617": 0, "1 01": 2, "1 00 2": 2, "1 100000": 2, "1 (02)": 3, "1 (123456)": 3, "1 (01)": 3, "0 (00)": 3, "1 (2 03)": 5, "1 (2) 03": 6,
		// twice
		"1 (1)": 4, "1 (1x": 4, "1 (1 { a })": 4, "1 (1 2)": 4, "1 (2) (2 3)": 8, "1 (2) (1)": 8, "1 { a } (1 { a })": 10, "12345 (12345)": 12, "1 (2) (3) (4) (2": 16, "1 2 (2)": 6, "1 (2 3 (3))": 9, "1 (2 3) 4 (4)": 12, "0 (0": 4, "1 (11) (11)": 10,
		// notes
		"1 { }": 4, "1 {  }": 5, "1 {   }": 6, "1 {}": 3, "1 {a}": 4, "1 {a }": 5, "1 { a}": 5, "1 {  a }": 7, "1 { a  }": 7, "1 {a } }": 5, "1 { a { }": 6, "1 {{ a }": 3, "1 { { }": 4, "1 { a\x1f }": 5, "1 { \x1f }": 4, "1 {\x7f": 3, "1 { é }": 4, "1 { a\xff": 5, "1 { a\n }": 5, "1 {a{": 4, "1 {a\x00 }": 4, "1 { \x80 }": 4,
		"1 { " + strings.Repeat("n", 201) + " }":      206,
		"1 { " + strings.Repeat("n", 9999):            10003,
		"1 { " + strings.Repeat("n", 9999) + "{ }":    10003,
		"1 (2 { " + strings.Repeat("n", 201) + " } 3": 209,
		"1 { " + strings.Repeat(" ", 300) + "}":       304,
	} {
		faulty(t, s, at, api.ErrWord)
	}
}

// P22.1: of several faults the first one from the left is told; of one number the one that stands beside is the last one.
func TestFirstFault(t *testing.T) {
	faulty(t, "1 (1 (", 4, api.ErrWord)
	faulty(t, "01 (01) x", 0, api.ErrWord)
	faulty(t, "1 (2) (2", 8, api.ErrWord)
	faulty(t, "1 {a } (1) 01", 5, api.ErrWord)
	full := wide(api.MaxNodes)
	if len(of(t, full)) != api.MaxNodes {
		t.Fatal("no tale of many nodes")
	}
	size := len(full)
	faulty(t, full+" (7)", size+2, api.ErrLimit)
	faulty(t, full+" (401)", size+2, api.ErrLimit)
	faulty(t, full+" (07)", size+2, api.ErrWord)
	faulty(t, full+" (123456)", size+2, api.ErrWord)
	faulty(t, full+" (x)", size+2, api.ErrWord)
	faulty(t, full+" 7x", size+1, api.ErrLimit)
	faulty(t, full+" 7 {", size+1, api.ErrLimit)
	faulty(t, full+" ", size+1, api.ErrWord)
	faulty(t, full+"7 (8)", size, api.ErrWord)
	faulty(t, full[:size-1]+" 7)", size, api.ErrLimit)
	faulty(t, full[:size-1]+" { a } 7)", size+6, api.ErrLimit)
	faulty(t, full[:size-1]+" {a } 7)", size+3, api.ErrWord)
	faulty(t, wide(api.MaxNodes-1)+" (7) 8", len(wide(api.MaxNodes-1))+3, api.ErrWord)
}

// P22.1: limits of nodes from both sides, in each shape.
func TestReadHowMany(t *testing.T) {
	for _, shape := range []func(count int) string{straight, wide} {
		of(t, shape(api.MaxNodes-1))
		of(t, shape(api.MaxNodes))
		s := shape(api.MaxNodes + 1)
		faulty(t, s, strings.LastIndexAny(strings.TrimRight(s, ")"), " (")+1, api.ErrLimit)
		faulty(t, shape(2*api.MaxNodes), strings.LastIndexAny(strings.TrimRight(s, ")"), " (")+1, api.ErrLimit)
	}
	half := straight(api.MaxNodes / 2)
	of(t, "9 ("+half+") "+straight(api.MaxNodes/2-1))
	faulty(t, "9 ("+half+") "+half, 2*len(half)+4, api.ErrLimit)
	deep := strings.Repeat("0 (1 ", api.MaxNodes/2-1) + "0 (1" + strings.Repeat(")", api.MaxNodes/2)
	of(t, deep)
	faulty(t, deep+" 1", len(deep)+1, api.ErrLimit)
}

// P22.1: limits of notes and texts from both sides.
func TestReadHowLong(t *testing.T) {
	for _, size := range []int{1, 2, api.MaxNote - 1, api.MaxNote} {
		note := strings.Repeat("n", size)
		if l := of(t, "1 { "+note+" }"); l[0].Note != note {
			t.Errorf("Note = %q", l[0].Note)
		}
	}
	whole := strings.Repeat("9 { "+strings.Repeat("n", 199)+" } ", 318)
	whole = whole[:len(whole)-1]
	rest := api.MaxText - len(whole) - len(" 9 {  }")
	whole += " 9 { " + strings.Repeat("n", rest) + " }"
	if len(whole) != api.MaxText {
		t.Fatalf("%d bytes", len(whole))
	}
	of(t, whole)
	faulty(t, whole+" ", 0, api.ErrLimit)
	faulty(t, "1"+whole, 0, api.ErrLimit)
	faulty(t, strings.Repeat("x", api.MaxText), 0, api.ErrWord)
	faulty(t, strings.Repeat("x", api.MaxText+1), 0, api.ErrLimit)
	faulty(t, strings.Repeat("1", api.MaxText), 0, api.ErrWord)
	faulty(t, "1"+strings.Repeat(" ", api.MaxText-1), 2, api.ErrWord)
	faulty(t, strings.Repeat(" ", 1<<24), 0, api.ErrLimit)
	faulty(t, "1 {"+strings.Repeat("n", api.MaxText-3), api.MaxText, api.ErrWord)
}

// level is a list of nodes, as the second reading has it: its numbers, and whether its first one is past, so that another one is being told.
type level struct {
	numbers map[string]bool
	inside  bool
}

var (
	digits = regexp.MustCompile(`^[0-9]+`)
	braces = regexp.MustCompile(`^[\x20-\x7a\x7c\x7e]*`)
	inner  = regexp.MustCompile(`^ [!-z|~]([ -z|~]{0,198}[!-z|~])? $`)
)

// reading is a second reading of the chapter: word by word, without what is read, with the levels that are open as a list. It tells the first fault.
func reading(s string) (at int, e api.Errno) {
	if len(s) > api.MaxText || s == "" {
		return 0, map[bool]api.Errno{true: api.ErrLimit, false: api.OK}[s != ""]
	}
	open, count := []level{{map[string]bool{}, false}}, 0
	for {
		number := digits.FindString(s[at:])
		n, err := strconv.Atoi(number)
		switch {
		case err != nil, n > 99999, number[0] == '0' && number != "0":
			return at, api.ErrWord
		case count == 400:
			return at, api.ErrLimit
		}
		at += len(number)
		last := &open[len(open)-1]
		if last.numbers[number] {
			return at, api.ErrWord
		}
		count++
		last.numbers[number] = true
		if strings.HasPrefix(s[at:], " {") {
			note := braces.FindString(s[at+2:])
			at += 2 + len(note)
			if !strings.HasPrefix(s[at:], "}") || !inner.MatchString(note) {
				return at, api.ErrWord
			}
			at++
		}
		mayBranch := !last.inside
		for strings.HasPrefix(s[at:], ")") {
			// the levels that were begun within the branch end with it
			for len(open) > 0 && !open[len(open)-1].inside {
				open = open[:len(open)-1]
			}
			if len(open) == 0 {
				return at, api.ErrWord
			}
			open[len(open)-1].inside = false
			mayBranch = true
			at++
		}
		last = &open[len(open)-1]
		switch {
		case at == len(s):
			for _, l := range open {
				if l.inside {
					return at, api.ErrWord
				}
			}
			return 0, api.OK
		case mayBranch && strings.HasPrefix(s[at:], " ("):
			at += 2
			last.inside = true
		case s[at] == ' ':
			at++
			open = append(open, level{map[string]bool{}, false})
		default:
			return at, api.ErrWord
		}
	}
}

// held holds what Read says of a text against the second reading; what is read is written the same.
func held(t *testing.T, count map[api.Errno]int, s string) {
	t.Helper()
	at, e := reading(s)
	count[e]++
	if e != api.OK {
		faulty(t, s, at, e)
		return
	}
	of(t, s)
}

// P22.1: all texts that are one byte away from some, against the second reading.
func TestChangedTexts(t *testing.T) {
	count := map[api.Errno]int{}
	for _, s := range []string{"1 { good } (2 5) 3", "0 (1 3 (2)) (4 { a b } 5 (6)) 7", "10 (2 { x } 30 (4 5) (6)) (7 (8", "99999 (9999) 0 { {", "1 (2 3) (4) 5 (6) 7"} {
		held(t, count, s)
		for i := range len(s) + 1 {
			held(t, count, s[:i])
			for b := range 256 {
				held(t, count, s[:i]+string([]byte{byte(b)})+s[i:])
				if i < len(s) {
					held(t, count, s[:i]+string([]byte{byte(b)})+s[i+1:])
				}
			}
			if i < len(s) {
				held(t, count, s[:i]+s[i+1:])
			}
		}
	}
	if count[api.OK] < 900 || count[api.ErrWord] < 50000 {
		t.Errorf("answers: %v", count)
	}
}

// P22.1: all short texts of some bytes, against the second reading.
func TestShortTexts(t *testing.T) {
	count := map[api.Errno]int{}
	const bytes = "01 (){}"
	for size := range 8 {
		all := 1
		for range size {
			all *= len(bytes)
		}
		for n := range all {
			text := make([]byte, size)
			for i := range text {
				text[i] = bytes[n%len(bytes)]
				n /= len(bytes)
			}
			held(t, count, string(text))
		}
	}
	if count[api.OK] < 100 || count[api.ErrWord] < 900000 {
		t.Errorf("answers: %v", count)
	}
}
