package tale_test

import (
	"math/rand/v2"
	"slices"
	"strconv"
	"strings"
	"testing"

	"joust/api"
	"joust/tale"
)

// path is a node of a tale by all the numbers that lead to it.
type path struct {
	line []int
	note string
}

// paths are a tale without branches: its nodes as a list. Of those that stand beside each other the first one comes first.
type paths []path

func (l paths) at(line []int) int {
	return slices.IndexFunc(l, func(p path) bool { return slices.Equal(p.line, line) })
}

// behind are those that come right behind a line.
func (l paths) behind(line []int) (kids paths) {
	for _, p := range l {
		if len(p.line) == len(line)+1 && slices.Equal(p.line[:len(line)], line) {
			kids = append(kids, p)
		}
	}
	return kids
}

func (l paths) nodes(line []int) (nodes []api.Node) {
	for _, p := range l.behind(line) {
		nodes = append(nodes, api.Node{N: p.line[len(line)], Note: p.note, Kids: l.nodes(p.line)})
	}
	return nodes
}

// text is a second reading of what Write tells.
func (l paths) text(line []int) string {
	var words []string
	kids := l.behind(line)
	for i, p := range kids {
		s := strconv.Itoa(p.line[len(line)])
		if p.note != "" {
			s += " { " + p.note + " }"
		}
		if i > 0 {
			s = "(" + strings.TrimRight(s+" "+l.text(p.line), " ") + ")"
		}
		words = append(words, s)
	}
	if len(kids) > 0 && len(l.behind(kids[0].line)) > 0 {
		words = append(words, l.text(kids[0].line))
	}
	return strings.Join(words, " ")
}

func (l paths) lines(line []int) (lines [][]int) {
	for _, p := range l.behind(line) {
		further := l.lines(p.line)
		if further == nil {
			further = [][]int{p.line}
		}
		lines = append(lines, further...)
	}
	return lines
}

func (l paths) added(line []int, note string) paths {
	l = slices.Clone(l)
	for i := range line {
		if l.at(line[:i+1]) < 0 {
			l = append(l, path{slices.Clone(line[:i+1]), ""})
		}
	}
	if i := l.at(line); i >= 0 && l[i].note == "" {
		l[i].note = note
	}
	return l
}

func (l paths) cut(line []int) paths {
	return slices.DeleteFunc(slices.Clone(l), func(p path) bool { return len(p.line) >= len(line) && slices.Equal(p.line[:len(line)], line) })
}

func (l paths) raised(line []int) paths {
	l = slices.Clone(l)
	for i := range line {
		at := l.at(line[:i+1])
		first := l[at]
		l = slices.Insert(slices.Delete(l, at, at+1), 0, first)
	}
	return l
}

// lots draws tales.
type lots struct{ *rand.Rand }

func (l lots) yes(of int) bool { return l.IntN(of) == 0 }

func (l lots) number() int {
	if l.yes(9) {
		return l.IntN(api.MaxNumber + 1)
	}
	return l.IntN(4)
}

func (l lots) note() string {
	size := l.IntN(4)
	if l.yes(50) {
		size = l.IntN(api.MaxNote + 1)
	}
	var s []byte
	for range size {
		s = append(s, " !()09az|~"[l.IntN(10)])
	}
	return strings.Trim(string(s), " ")
}

// tale is one of lines by lot, many of which go on from others, at most so many nodes.
func (l lots) tale(most int) (nodes paths) {
	size := l.IntN(most + 1)
	for len(nodes) < size {
		var line []int
		if len(nodes) > 0 && !l.yes(5) {
			line = slices.Clone(nodes[l.IntN(len(nodes))].line)
		}
		nodes = nodes.added(append(line, l.number()), l.note())
	}
	return nodes
}

// line is one that is there, mostly.
func (l lots) line(nodes paths) (line []int) {
	if len(nodes) > 0 && !l.yes(8) {
		line = slices.Clone(nodes[l.IntN(len(nodes))].line)
	}
	for l.yes(3) {
		line = append(line, l.number())
	}
	return line
}

// is asks for a tale that the second reading tells, and that nothing but its lists' order be told of it.
func (l paths) is(t *testing.T, what string) func(got []api.Node, e api.Errno) {
	t.Helper()
	return func(got []api.Node, e api.Errno) {
		t.Helper()
		if want := l.nodes(nil); e != api.OK || !tale.Same(got, want) {
			t.Fatalf("%s = %d, %v; not %v", what, e, got, want)
		}
		s, e := tale.Write(got)
		if e != api.OK || s != l.text(nil) {
			t.Fatalf("%s: Write = %q, %d; not %q", what, s, e, l.text(nil))
		}
		if again, at, e := tale.Read(s); e != api.OK || at != 0 || !tale.Same(again, got) {
			t.Fatalf("%s: Read(%q) = %v, %d, %d", what, s, again, at, e)
		}
		lines := l.lines(nil)
		if told := tale.Lines(got); !equalLines(told, lines) {
			t.Fatalf("%s: Lines = %v; not %v", what, told, lines)
		}
		if m := tale.Main(got); len(lines) == 0 && len(m) > 0 || len(lines) > 0 && !slices.Equal(m, lines[0]) {
			t.Fatalf("%s: Main = %v; not %v", what, m, lines)
		}
	}
}

// P22.1 to P22.4: tales by lot, against the second reading: what each call makes of them, and what is written, read.
func TestTalesByLot(t *testing.T) {
	lot, count := lots{rand.New(rand.NewPCG(22, 1))}, map[string]int{}
	for i := range 3000 {
		nodes := lot.tale(12)
		if i%100 == 0 {
			nodes = lot.tale(120)
		}
		was := nodes.nodes(nil)
		l := nodes.nodes(nil)
		nodes.is(t, "a tale")(l, api.OK)
		line := lot.line(nodes)
		nodes.added(line, "").is(t, "Add")(tale.Add(l, line))
		if nodes.at(line) >= 0 {
			nodes.cut(line).is(t, "Cut")(tale.Cut(l, line))
			nodes.raised(line).is(t, "Raise")(tale.Raise(l, line))
			up, _ := tale.Raise(l, line)
			if m := tale.Main(up); !slices.Equal(m[:len(line)], line) {
				t.Fatalf("Main behind Raise of %v = %v", line, m)
			}
			count["there"]++
		} else {
			refused(t, "Cut", api.ErrNone)(tale.Cut(l, line))
			refused(t, "Raise", api.ErrNone)(tale.Raise(l, line))
			count["not there"]++
		}
		if !tale.Same(l, was) {
			t.Fatalf("it changed: %v, not %v", l, was)
		}
	}
	if count["there"] < 1500 || count["not there"] < 500 {
		t.Errorf("lines: %v", count)
	}
}

// goesOn tells whether others go on from a line.
func goesOn(line []int, others [][]int) bool {
	return slices.ContainsFunc(others, func(o []int) bool { return len(o) > len(line) && slices.Equal(o[:len(line)], line) })
}

func sorted(lines [][]int) [][]int {
	lines = slices.Clone(lines)
	slices.SortFunc(lines, slices.Compare)
	return slices.CompactFunc(lines, slices.Equal)
}

// P22.3, P22.4: merged tales by lot: against the second reading, and by their lines.
func TestMergesByLot(t *testing.T) {
	lot := lots{rand.New(rand.NewPCG(22, 2))}
	for range 2000 {
		a, b := lot.tale(15), lot.tale(15)
		first, second, both := a.nodes(nil), b.nodes(nil), a
		for _, p := range b {
			both = both.added(p.line, p.note)
		}
		both.is(t, "Merge")(tale.Merge(first, second))
		a.is(t, "Merge of itself")(tale.Merge(first, first))
		all := append(tale.Lines(first), tale.Lines(second)...)
		l, _ := tale.Merge(first, second)
		ends := slices.DeleteFunc(slices.Clone(all), func(line []int) bool { return goesOn(line, all) })
		if lines := tale.Lines(l); !equalLines(sorted(lines), sorted(ends)) {
			t.Fatalf("Lines of Merge = %v; not %v", lines, ends)
		}
		if !tale.Same(first, a.nodes(nil)) || !tale.Same(second, b.nodes(nil)) {
			t.Fatal("what was merged changed")
		}
	}
}

// P22.1: texts of tales by lot, with some bytes that are something else, against the second reading of texts.
func TestTextsByLot(t *testing.T) {
	lot, count := lots{rand.New(rand.NewPCG(22, 3))}, map[api.Errno]int{}
	for range 20000 {
		s := lot.tale(15).text(nil)
		held(t, count, s)
		for range lot.IntN(3) {
			at := lot.IntN(len(s) + 1)
			s = s[:at] + []string{"", " ", "0", "1", "2", "(", ")", " (1", " 1", "{", "}", " { a }", "99999"}[lot.IntN(13)] + s[min(len(s), at+lot.IntN(2)):]
			held(t, count, s)
		}
	}
	long := lot.tale(api.MaxNodes)
	for len(long) < api.MaxNodes {
		long = long.added(append(lot.line(long), lot.number()), "")
	}
	for range 300 {
		at := lot.IntN(len(long))
		held(t, count, long[:api.MaxNodes].added(append(slices.Clone(long[at].line), 5), "").text(nil))
	}
	if count[api.OK] < 20000 || count[api.ErrWord] < 5000 || count[api.ErrLimit] < 200 {
		t.Errorf("answers: %v", count)
	}
}
