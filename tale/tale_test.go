package tale_test

import (
	"slices"
	"strconv"
	"strings"
	"testing"

	"joust/api"
	"joust/tale"
)

// none are no nodes behind a node.
var none []api.Node

// node is one with what comes behind it.
func node(n int, note string, kids ...api.Node) api.Node {
	return api.Node{N: n, Note: note, Kids: kids}
}

// of is the tale of a text, which is the text of that tale.
func of(t *testing.T, s string) []api.Node {
	t.Helper()
	l, at, e := tale.Read(s)
	if at != 0 || e != api.OK || !tale.May(l) {
		t.Fatalf("Read(%.80q) = %d, %d", s, at, e)
	}
	if again, e := tale.Write(l); again != s || e != api.OK {
		t.Fatalf("Write(Read(%.80q)) = %.80q, %d", s, again, e)
	}
	return l
}

// told asks for a tale by its text.
func told(t *testing.T, what string, want string) func(l []api.Node, e api.Errno) {
	t.Helper()
	return func(l []api.Node, e api.Errno) {
		t.Helper()
		if s, f := tale.Write(l); s != want || e != api.OK || f != api.OK || !tale.May(l) {
			t.Errorf("%s = %.80q, %d, %d; not %.80q", what, s, e, f, want)
		}
	}
}

// refused asks for an error, and no tale.
func refused(t *testing.T, what string, want api.Errno) func(l []api.Node, e api.Errno) {
	t.Helper()
	return func(l []api.Node, e api.Errno) {
		t.Helper()
		if e != want || len(l) != 0 {
			t.Errorf("%s = %d nodes, %d; not %d", what, len(l), e, want)
		}
	}
}

func equalLines(a, b [][]int) bool { return slices.EqualFunc(a, b, slices.Equal) }

// straight is the text of so many nodes, each behind the one ahead.
func straight(count int) string {
	var words []string
	for i := range count {
		words = append(words, strconv.Itoa(i%7))
	}
	return strings.Join(words, " ")
}

// wide is the text of so many nodes, each beside the others.
func wide(count int) string {
	s := "0"
	for i := 1; i < count; i++ {
		s += " (" + strconv.Itoa(i) + ")"
	}
	return s
}

// P22.1 to P22.3: the chapter's examples.
func TestExamples(t *testing.T) {
	l := of(t, "1 { good } (2 5) 3")
	if m := tale.Main(l); !slices.Equal(m, []int{1, 3}) {
		t.Errorf("Main = %v", m)
	}
	if a := tale.Lines(l); !equalLines(a, [][]int{{1, 3}, {2, 5}}) {
		t.Errorf("Lines = %v", a)
	}
	faulty(t, "1 (1)", 4, api.ErrWord)
	faulty(t, "1 { }", 4, api.ErrWord)
	told(t, "Raise", "2 (1 { good } 3) 5")(tale.Raise(l, []int{2, 5}))
}

// P22.1: texts, and the tales that they tell.
func TestTexts(t *testing.T) {
	for s, l := range map[string][]api.Node{
		"":                {},
		"0":               {node(0, "")},
		"99999":           {node(99999, "")},
		"1 { ! }":         {node(1, "!")},
		"1 { ~ }":         {node(1, "~")},
		"1 { a  b }":      {node(1, "a  b")},
		"1 { (2) 3 }":     {node(1, "(2) 3")},
		"1 2":             {node(1, "", node(2, ""))},
		"1 1 1":           {node(1, "", node(1, "", node(1, "")))},
		"1 (2)":           {node(1, ""), node(2, "")},
		"1 (2) 1":         {node(1, "", node(1, "")), node(2, "")},
		"1 (2 1)":         {node(1, ""), node(2, "", node(1, ""))},
		"1 (2 1) 1":       {node(1, "", node(1, "")), node(2, "", node(1, ""))},
		"3 (2) (1)":       {node(3, ""), node(2, ""), node(1, "")},
		"1 (2 3 (4))":     {node(1, ""), node(2, "", node(3, ""), node(4, ""))},
		"1 (2 3 (4) 5) 6": {node(1, "", node(6, "")), node(2, "", node(3, "", node(5, "")), node(4, ""))},
		"1 2 (3) 4 (5) 6": {node(1, "", node(2, "", node(4, "", node(6, "")), node(5, "")), node(3, ""))},
		"1 { a } (2 { b } 3 { c }) (4 { d }) 5 { e } (6 { f }) 7": {node(1, "a", node(5, "e", node(7, "")), node(6, "f")), node(2, "b", node(3, "c")), node(4, "d")},
		"1 { " + strings.Repeat("n", api.MaxNote) + " }":          {node(1, strings.Repeat("n", api.MaxNote))},
	} {
		if read := of(t, s); !tale.Same(read, l) || !tale.Same(l, read) {
			t.Errorf("Read(%q) = %v", s, read)
		}
		if again, e := tale.Write(l); again != s || e != api.OK {
			t.Errorf("Write(%v) = %q, %d", l, again, e)
		}
	}
}

// P22.1: every byte that may be in a note is in one; each other one isn't.
func TestBytesOfNotes(t *testing.T) {
	for b := range 256 {
		note := "a" + string([]byte{byte(b)}) + "b"
		l := []api.Node{node(1, note)}
		if may := b >= 32 && b <= 126 && b != '{' && b != '}'; tale.May(l) != may {
			t.Errorf("May of the byte %d", b)
		}
		for _, edge := range []string{note[:2], note[1:]} {
			if may := b > 32 && b <= 126 && b != '{' && b != '}'; tale.May([]api.Node{node(1, edge)}) != may {
				t.Errorf("May of %q", edge)
			}
		}
	}
}

// wrongTales may not be, each for one reason alone.
func wrongTales() map[string][]api.Node {
	within := []api.Node{node(1, "")}
	within[0].Kids = within
	long := strings.Repeat("n", api.MaxNote+1)
	return map[string][]api.Node{
		"a number below 0":            {node(-1, "")},
		"a number above the limit":    {node(100000, "")},
		"the least number":            {node(-1<<63, "")},
		"the greatest number":         {node(1<<63-1, "")},
		"twice":                       {node(1, ""), node(1, "")},
		"twice, not one by one":       {node(1, ""), node(2, ""), node(1, "")},
		"twice, with something":       {node(1, "a", node(2, "")), node(1, "b", node(3, ""))},
		"twice behind one":            {node(1, "", node(2, ""), node(2, ""))},
		"twice behind the second one": {node(1, ""), node(2, "", node(0, ""), node(0, ""))},
		"a blank ahead":               {node(1, " a")},
		"a blank behind":              {node(1, "a ")},
		"a blank":                     {node(1, " ")},
		"a brace":                     {node(1, "a{b")},
		"another brace":               {node(1, "a}b")},
		"a line end":                  {node(1, "a\nb")},
		"a byte above":                {node(1, "a\x7fb")},
		"a rune above":                {node(1, "é")},
		"no rune":                     {node(1, "a\xffb")},
		"a long note":                 {node(1, long)},
		"a very long note":            {node(1, strings.Repeat("n", 1<<24))},
		"a long note further on":      {node(1, ""), node(2, "", node(3, "", node(4, long)))},
		"a number further on":         {node(1, ""), node(2, "", node(3, "", node(-4, "")))},
		"too many beside":             numbered(api.MaxNodes + 1),
		"too many behind":             chained(api.MaxNodes + 1),
		"too many behind each":        {node(0, "", numbered(199)...), node(1, "", numbered(200)...)},
		"very many":                   make([]api.Node, 1<<20),
		"within itself":               within,
		"within itself further on":    {node(3, ""), node(4, "", within...)},
	}
}

// numbered are so many nodes beside each other, chained ones behind each other.
func numbered(count int) []api.Node {
	l := make([]api.Node, count)
	for i := range l {
		l[i].N = i
	}
	return l
}

func chained(count int) []api.Node {
	l := none
	for range count {
		l = []api.Node{node(5, "", l...)}
	}
	return l
}

// P22.1, P22.2, P22.3: of a tale that may not be nothing is told.
func TestWrongTales(t *testing.T) {
	ok := of(t, "1 2")
	for what, l := range wrongTales() {
		if tale.May(l) || len(tale.Main(l)) != 0 || len(tale.Lines(l)) != 0 {
			t.Errorf("%s: May = %t, %d of Main, %d Lines", what, tale.May(l), len(tale.Main(l)), len(tale.Lines(l)))
		}
		if s, e := tale.Write(l); s != "" || e != api.ErrArg {
			t.Errorf("%s: Write = %.80q, %d", what, s, e)
		}
		for _, line := range [][]int{nil, {0}, {1}, {1, 2}, {5}, {9, 9}, {-1}, make([]int, api.MaxNodes+1)} {
			refused(t, what+": Add", api.ErrArg)(tale.Add(l, line))
			refused(t, what+": Cut", api.ErrArg)(tale.Cut(l, line))
			refused(t, what+": Raise", api.ErrArg)(tale.Raise(l, line))
		}
		refused(t, what+": Merge", api.ErrArg)(tale.Merge(l, ok))
		refused(t, what+": Merge", api.ErrArg)(tale.Merge(ok, l))
		refused(t, what+": Merge", api.ErrArg)(tale.Merge(l, nil))
		refused(t, what+": Merge", api.ErrArg)(tale.Merge(nil, l))
		refused(t, what+": Merge", api.ErrArg)(tale.Merge(l, l))
	}
}

// P22.1: as many nodes as may be, in each shape.
func TestHowMany(t *testing.T) {
	for what, l := range map[string][]api.Node{
		"beside":      numbered(api.MaxNodes),
		"behind":      chained(api.MaxNodes),
		"behind each": {node(0, "", numbered(199)...), node(1, "", chained(199)...)},
	} {
		s, e := tale.Write(l)
		if !tale.May(l) || e != api.OK {
			t.Errorf("%s: Write = %d", what, e)
		}
		if !tale.Same(of(t, s), l) {
			t.Errorf("%s: another tale is read", what)
		}
	}
}

// P22.1: a tale may be, and has its text, though that is longer than what is read.
func TestLongText(t *testing.T) {
	l := chained(api.MaxNodes)
	for at := l; len(at) > 0; at = at[0].Kids {
		at[0].Note = strings.Repeat("n", api.MaxNote)
	}
	s, e := tale.Write(l)
	if !tale.May(l) || e != api.OK || s != strings.Repeat(" 5 { "+l[0].Note+" }", api.MaxNodes)[1:] {
		t.Errorf("Write = %d bytes, %d", len(s), e)
	}
	faulty(t, s, 0, api.ErrLimit)
}

// P22.2: the main line, and all lines.
func TestLines(t *testing.T) {
	for s, want := range map[string][][]int{
		"":                       nil,
		"7":                      {{7}},
		"1 2 3":                  {{1, 2, 3}},
		"1 (2) (3)":              {{1}, {2}, {3}},
		"3 (2) (1)":              {{3}, {2}, {1}},
		"1 (2 5 (6) 7) 3 (4) 4":  {{1, 3, 4}, {1, 4}, {2, 5, 7}, {2, 6}},
		"1 (2) (3 4 (5)) 6 (7)":  {{1, 6}, {1, 7}, {2}, {3, 4}, {3, 5}},
		"0 { a } 0 { b } (1) 0":  {{0, 0, 0}, {0, 1}},
		"99999 (0 99999) 0 (99)": {{99999, 0}, {99999, 99}, {0, 99999}},
	} {
		l := of(t, s)
		if a := tale.Lines(l); !equalLines(a, want) {
			t.Errorf("Lines of %q = %v", s, a)
		}
		var first []int
		if len(want) > 0 {
			first = want[0]
		}
		if m := tale.Main(l); !slices.Equal(m, first) {
			t.Errorf("Main of %q = %v", s, m)
		}
	}
}

// Lines goes first by first branches, Main too, though other branches are longer.
func TestLinesOfMany(t *testing.T) {
	l := of(t, straight(api.MaxNodes))
	if m, a := tale.Main(l), tale.Lines(l); len(m) != api.MaxNodes || len(a) != 1 || !slices.Equal(a[0], m) {
		t.Errorf("Main = %v, %d lines", m, len(a))
	}
	l = of(t, wide(api.MaxNodes))
	if m, a := tale.Main(l), tale.Lines(l); !slices.Equal(m, []int{0}) || len(a) != api.MaxNodes || a[399][0] != 399 {
		t.Errorf("Main = %v, %d lines", m, len(a))
	}
}
