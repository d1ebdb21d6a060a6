package scan_test

import (
	"math"
	"regexp"
	"slices"
	"strings"
	"testing"
	"unicode/utf8"
	"unsafe"

	"joust/api"
	"joust/scan"
)

func at(line, col int) api.Spot { return api.Spot{Line: line, Col: col} }

func tok(kind uint8, text string, line, col int) api.Token {
	return api.Token{Kind: kind, Text: text, At: at(line, col)}
}

func word(text string, line, col int) api.Token   { return tok(api.TokWord, text, line, col) }
func number(text string, line, col int) api.Token { return tok(api.TokNumber, text, line, col) }
func mark(text string, line, col int) api.Token   { return tok(api.TokMark, text, line, col) }
func end(line, col int) api.Token                 { return tok(api.TokEnd, "", line, col) }

// P1.1: what the tokens are, and where they begin.
func TestTokensOfTexts(t *testing.T) {
	for _, c := range []struct {
		text string
		want []api.Token
	}{
		{"", []api.Token{end(1, 1)}},
		{"\n\n", []api.Token{end(3, 1)}},
		{" \t\r", []api.Token{end(1, 4)}},
		{"ab-c 12\n{", []api.Token{word("ab-c", 1, 1), number("12", 1, 6), mark("{", 2, 1), end(2, 2)}},
		{"a-", []api.Token{word("a", 1, 1), mark("-", 1, 2), end(1, 3)}},
		{"é-1--\tx", []api.Token{word("é-1", 1, 1), mark("-", 1, 4), mark("-", 1, 5), word("x", 1, 7), end(1, 8)}},
		{"a--b", []api.Token{word("a--b", 1, 1), end(1, 5)}},
		{"a-(b", []api.Token{word("a", 1, 1), mark("-", 1, 2), mark("(", 1, 3), word("b", 1, 4), end(1, 5)}},
		{"-a", []api.Token{mark("-", 1, 1), word("a", 1, 2), end(1, 3)}},
		{"1-a", []api.Token{number("1", 1, 1), mark("-", 1, 2), word("a", 1, 3), end(1, 4)}},
		{"0 99999", []api.Token{number("0", 1, 1), number("99999", 1, 3), end(1, 8)}},
		{"0-0", []api.Token{number("0", 1, 1), mark("-", 1, 2), number("0", 1, 3), end(1, 4)}},
		{"a\rb", []api.Token{word("a", 1, 1), word("b", 1, 3), end(1, 4)}},
		{"x#1é! \r\U0001F600\ufffd #\ny# z", []api.Token{word("x", 1, 1), word("y", 2, 1), end(2, 5)}},
		{"#\n#\n", []api.Token{end(3, 1)}},
		{"12#x", []api.Token{number("12", 1, 1), end(1, 5)}},
		{"ǅʰª語𐐀", []api.Token{word("ǅʰª語𐐀", 1, 1), end(1, 6)}},
	} {
		got, fault := scan.Tokens(c.text)
		if !slices.Equal(got, c.want) || fault != (api.Fault{}) {
			t.Errorf("Tokens(%q) = %v, %v; not %v", c.text, got, fault, c.want)
		}
	}
}

// P1.1: each byte below 128 is a letter, a digit, a mark, a blank, begins a remark, or may not be.
func TestEachSmallRune(t *testing.T) {
	for r := range rune(128) {
		got, fault := scan.Tokens(string(r))
		want := []api.Token{end(1, 2)}
		switch {
		case 'a' <= r && r <= 'z' || 'A' <= r && r <= 'Z':
			want = []api.Token{word(string(r), 1, 1), end(1, 2)}
		case '0' <= r && r <= '9':
			want = []api.Token{number(string(r), 1, 1), end(1, 2)}
		case strings.ContainsRune("{}():;+*<=-", r):
			want = []api.Token{mark(string(r), 1, 1), end(1, 2)}
		case r == '\n':
			want = []api.Token{end(2, 1)}
		case !strings.ContainsRune(" \t\r#", r):
			if got != nil || fault != (api.Fault{E: api.ErrRune, At: at(1, 1)}) {
				t.Errorf("Tokens(%q) = %v, %v", r, got, fault)
			}
			continue
		}
		if !slices.Equal(got, want) || fault != (api.Fault{}) {
			t.Errorf("Tokens(%q) = %v, %v; not %v", r, got, fault, want)
		}
	}
}

// P1.1: the first fault from the left; of several at one spot, the one that is named first.
func TestFirstFault(t *testing.T) {
	w24, w25 := strings.Repeat("w", 24), strings.Repeat("é", 25)
	for _, c := range []struct {
		text string
		e    api.Errno
		at   api.Spot
	}{
		{"a!", api.ErrRune, at(1, 2)},
		{"é é\n é\x00", api.ErrRune, at(2, 3)},
		{"a\u0301", api.ErrRune, at(1, 2)},  // a letter, and a sign upon it
		{"a\u00a0b", api.ErrRune, at(1, 2)}, // a blank of another kind
		{"\ufeffa", api.ErrRune, at(1, 1)},
		{"a_b", api.ErrRune, at(1, 2)},
		{"a٣", api.ErrRune, at(1, 2)},
		{"aⅬ", api.ErrRune, at(1, 2)}, // a number that looks like a letter
		{"3٣", api.ErrRune, at(1, 2)},
		{"a\ufffd", api.ErrRune, at(1, 2)},
		{"a\xc3", api.ErrRune, at(1, 2)},
		{"\xed\xa0\x80", api.ErrRune, at(1, 1)}, // half of a pair
		{"\xc1\x81", api.ErrRune, at(1, 1)},     // an A of two bytes
		{"\n# é\ufffd\xef\xbf", api.ErrRune, at(2, 5)},
		{"# !\n!", api.ErrRune, at(2, 1)},
		{"00", api.ErrWord, at(1, 1)},
		{"a\n\t007", api.ErrWord, at(2, 2)},
		{"0x", api.ErrWord, at(1, 1)},
		{"( 12é", api.ErrWord, at(1, 3)},
		{"3x!", api.ErrWord, at(1, 1)},
		{"00!", api.ErrWord, at(1, 1)},
		{"3!x", api.ErrRune, at(1, 2)},
		{"! 00", api.ErrRune, at(1, 1)},
		{"00 !", api.ErrWord, at(1, 1)},
		{"1 100000", api.ErrLimit, at(1, 3)},
		{"100000x", api.ErrLimit, at(1, 1)},
		{"0100000", api.ErrLimit, at(1, 1)},
		{"099999", api.ErrWord, at(1, 1)},
		{"18446744073709551617", api.ErrLimit, at(1, 1)}, // 2^64 + 1
		{strings.Repeat("0", 400) + "99999", api.ErrWord, at(1, 1)},
		{strings.Repeat("0", 400) + "100000", api.ErrLimit, at(1, 1)},
		{strings.Repeat("9", 400), api.ErrLimit, at(1, 1)},
		{"a\n" + w25, api.ErrLimit, at(2, 1)},
		{w24 + "-1", api.ErrLimit, at(1, 1)},
		{w25 + "!", api.ErrLimit, at(1, 1)},
		{w24 + "!", api.ErrRune, at(1, 25)},
		{w24 + "--!", api.ErrRune, at(1, 27)},
		{"! " + w25, api.ErrRune, at(1, 1)},
		{"3" + w25, api.ErrWord, at(1, 1)},
	} {
		got, fault := scan.Tokens(c.text)
		if got != nil || fault != (api.Fault{E: c.e, At: c.at}) {
			t.Errorf("Tokens(%q) = %v, %v; not %v at %v", c.text, got, fault, c.e, c.at)
		}
	}
}

// P1.1: the limits, on both sides.
func TestLimits(t *testing.T) {
	w := strings.Repeat("語", api.MaxWord)
	got, fault := scan.Tokens(w + "--")
	want := []api.Token{word(w, 1, 1), mark("-", 1, 25), mark("-", 1, 26), end(1, 27)}
	if !slices.Equal(got, want) || fault != (api.Fault{}) {
		t.Errorf("Tokens = %v, %v", got, fault)
	}
	tooLong := api.Fault{E: api.ErrLimit, At: at(1, 1)}
	for _, c := range []struct {
		text  string
		fault api.Fault
		count int
	}{
		{strings.Repeat("-", api.MaxText), api.Fault{}, api.MaxText + 1},
		{strings.Repeat("é ", api.MaxText/3), api.Fault{}, api.MaxText/3 + 1},
		{strings.Repeat("-", api.MaxText+1), tooLong, 0},
		{strings.Repeat("\xff", api.MaxText), api.Fault{E: api.ErrRune, At: at(1, 1)}, 0},
		{strings.Repeat("\xff", api.MaxText+1), tooLong, 0},
		{"00" + strings.Repeat(" ", api.MaxText), tooLong, 0},
		{strings.Repeat("語 ", api.MaxText/4+1), tooLong, 0}, // bytes count, not runes
		{strings.Repeat(" ", api.MaxText-1) + "!", api.Fault{E: api.ErrRune, At: at(1, api.MaxText)}, 0},
		{"a" + strings.Repeat("-", api.MaxText-1), api.Fault{}, api.MaxText + 1},
		{"a" + strings.Repeat("-", api.MaxText-2) + "a", tooLong, 0}, // a word that is too long, at the same spot
	} {
		if got, fault := scan.Tokens(c.text); fault != c.fault || len(got) != c.count {
			t.Errorf("Tokens(%.9q of %d) = %d, %v", c.text, len(c.text), len(got), fault)
		}
	}
}

// P1.1: each answer is new: it shares nothing with another one, nor with the text.
func TestAnswersAreApart(t *testing.T) {
	text := strings.Repeat("word 12 ( ", 9)
	from := uintptr(unsafe.Pointer(unsafe.StringData(text)))
	l, _ := scan.Tokens(text)
	for _, k := range l[:len(l)-1] {
		if p := uintptr(unsafe.Pointer(unsafe.StringData(k.Text))); from <= p && p < from+uintptr(len(text)) {
			t.Errorf("%v is a piece of the text", k)
		}
	}
	a, _ := scan.Tokens("a 1")
	b, _ := scan.Tokens("a 1")
	a[0].Text, a[1].Kind, a[2].At = "b", api.TokMark, at(7, 7)
	if c, _ := scan.Tokens("a 1"); !slices.Equal(b, c) || b[0].Text != "a" {
		t.Errorf("Tokens = %v, then %v", b, c)
	}
}

// P1.2: which texts are words.
func TestWords(t *testing.T) {
	for s, want := range map[string]bool{
		"": false, "a": true, "Z": true, "é1": true, "a-b": true, "a--1": true, "a1-2b": true, "ª": true, "語": true,
		"-": false, "a-": false, "a--": false, "-a": false, "1": false, "1a": false, "١": false,
		"a b": false, " a": false, "a ": false, "a\n": false, "a#": false, "a:": false, "a_b": false,
		"a٣": false, "a\u0301": false, "\xff": false, "a\xff": false, "\xffa": false, "\ufffd": false, "a\x00": false,
		strings.Repeat("語", 24): true, strings.Repeat("語", 25): false,
		strings.Repeat("a", 23) + "-": false, strings.Repeat("a", 22) + "-a": true, strings.Repeat("a", 24) + "-": false,
		strings.Repeat("a", 23) + "-a": false, strings.Repeat("a", 1<<20): false,
	} {
		if scan.Word(s) != want {
			t.Errorf("Word(%.30q) = %v", s, !want)
		}
	}
}

// P1.2: a spot of each byte, within runes too, and of bytes that there aren't.
func TestSpotsOfBytes(t *testing.T) {
	for _, c := range []struct {
		text string
		at   int
		want api.Spot
	}{
		{"", 0, at(1, 1)}, {"", 1, at(1, 1)}, {"", -1, at(1, 1)},
		{"a\nb", 0, at(1, 1)}, {"a\nb", 1, at(1, 2)}, {"a\nb", 2, at(2, 1)}, {"a\nb", 3, at(2, 2)}, {"a\nb", 4, at(2, 2)},
		{"a\nb", math.MaxInt, at(2, 2)}, {"a\nb", math.MinInt, at(1, 1)}, {"\na", -1, at(1, 1)},
		{"a\n", 2, at(2, 1)}, {"\n\n", 1, at(2, 1)}, {"\n\n", 9, at(3, 1)},
		{"x語y", 1, at(1, 2)}, {"x語y", 2, at(1, 2)}, {"x語y", 3, at(1, 2)}, {"x語y", 4, at(1, 3)},
		{"x語", 3, at(1, 2)}, {"x語", 4, at(1, 3)},
		{"\xe8\xaa", 0, at(1, 1)}, {"\xe8\xaa", 1, at(1, 2)}, {"\xe8\xaa", 2, at(1, 3)}, // a rune's beginning, cut off
		{"\xff\n\xff\xffa", 2, at(2, 1)}, {"\xff\n\xff\xffa", 4, at(2, 3)},
		{"\ufffd\xef", 2, at(1, 1)}, {"\ufffd\xef", 3, at(1, 2)},
		{"a\r\nb\t", 1, at(1, 2)}, {"a\r\nb\t", 2, at(1, 3)}, {"a\r\nb\t", 4, at(2, 2)}, {"a\r\nb\t", 5, at(2, 3)},
		{strings.Repeat("語\n", api.MaxText), 4*api.MaxText - 2, at(api.MaxText, 1)},
	} {
		if got := scan.Where(c.text, c.at); got != c.want {
			t.Errorf("Where(%.20q, %d) = %v, not %v", c.text, c.at, got, c.want)
		}
	}
}

// eachText goes through all texts of at most n of the pieces.
func eachText(pieces []string, n int, do func(string)) {
	var grow func(text string, left int)
	grow = func(text string, left int) {
		do(text)
		for _, p := range pieces {
			if left > 0 {
				grow(text+p, left-1)
			}
		}
	}
	grow("", n)
}

var pieces = []string{"a", "é", "-", "0", "7", " ", "\n", "#", "(", "!", "\xc3", "99999", strings.Repeat("w", 23)}

var (
	gapForm    = regexp.MustCompile(`^(?:[ \t\r\n]|#[^\n]*)+`)
	wordForm   = regexp.MustCompile(`^\p{L}(?:[\p{L}0-9-]*[\p{L}0-9])?`)
	numberForm = regexp.MustCompile(`^[0-9]+`)
	markForm   = regexp.MustCompile(`^[{}():;+*<=-]`)
)

// plainTokens reads a text as the chapter tells it, by forms: first where it is broken, then what stands ahead of that.
func plainTokens(text string) ([]api.Token, api.Fault) {
	valid := 0
	for valid < len(text) {
		if r, size := utf8.DecodeRuneInString(text[valid:]); r == utf8.RuneError && size == 1 {
			break
		} else {
			valid += size
		}
	}
	var list []api.Token
	i := 0
	fail := func(e api.Errno) ([]api.Token, api.Fault) { return nil, api.Fault{E: e, At: scan.Where(text, i)} }
	for i < valid {
		rest := text[i:valid]
		if m := gapForm.FindString(rest); m != "" {
			i += len(m)
			continue
		}
		kind, m := uint8(api.TokWord), wordForm.FindString(rest)
		if utf8.RuneCountInString(m) > api.MaxWord {
			return fail(api.ErrLimit)
		}
		if m == "" {
			kind, m = api.TokNumber, numberForm.FindString(rest)
			if len(strings.TrimLeft(m, "0")) > 5 {
				return fail(api.ErrLimit)
			}
			if m != "" && (m[0] == '0' && m != "0" || wordForm.MatchString(rest[len(m):])) {
				return fail(api.ErrWord)
			}
		}
		if m == "" {
			kind, m = api.TokMark, markForm.FindString(rest)
		}
		if m == "" {
			return fail(api.ErrRune)
		}
		list = append(list, api.Token{Kind: kind, Text: m, At: scan.Where(text, i)})
		i += len(m)
	}
	if valid < len(text) {
		i = valid
		return fail(api.ErrRune)
	}
	return append(list, api.Token{At: scan.Where(text, len(text))}), api.Fault{}
}

// P1.1: all short texts of these pieces are read as the forms say.
func TestAllShortTexts(t *testing.T) {
	eachText(pieces, 4, func(text string) {
		want, wantFault := plainTokens(text)
		if got, fault := scan.Tokens(text); !slices.Equal(got, want) || fault != wantFault {
			t.Errorf("Tokens(%q) = %v, %v; not %v, %v", text, got, fault, want, wantFault)
		}
	})
}

// P1.2: Word says of all short texts what Tokens does.
func TestWordsAreTokens(t *testing.T) {
	eachText(pieces, 4, func(text string) {
		l, _ := scan.Tokens(text)
		if want := len(l) == 2 && l[0].Kind == api.TokWord && l[0].Text == text; scan.Word(text) != want {
			t.Errorf("Word(%q) = %v", text, !want)
		}
	})
}

func texts(l []api.Token) []string {
	var out []string
	for _, k := range l {
		out = append(out, k.Text)
	}
	return out
}

// P1.3: tokens, parted by blanks, are read as the same, at the spots where they stand then.
func TestReadAgain(t *testing.T) {
	check := func(text string) {
		l, fault := scan.Tokens(text)
		if fault.E != api.OK {
			return
		}
		parted := strings.Join(texts(l), " ")
		again, fault := scan.Tokens(parted)
		if fault != (api.Fault{}) || len(again) != len(l) {
			t.Errorf("%q, read again: %v, %v", text, again, fault)
			return
		}
		col := 1
		for i, k := range again {
			if k.Kind != l[i].Kind || k.Text != l[i].Text || k.At != at(1, col) {
				t.Errorf("%q, read again: %v, not %v", text, k, l[i])
			}
			col += utf8.RuneCountInString(k.Text) + 1
		}
	}
	eachText(pieces, 4, check)
	check("unit ogre-1 4 1800 0 {\n when summon theirs needs (< 1 life mine): damage theirs (- 500 1); # so\n}")
	check(strings.Repeat("-", api.MaxText/2))
}
