package tale_test

import (
	"math"
	"slices"
	"strings"
	"testing"

	"joust/api"
	"joust/tale"
)

const base = "1 { good } (2 5) 3"

// P22.3: a line over; what is there is kept.
func TestAdd(t *testing.T) {
	for _, c := range []struct {
		s    string
		line []int
		want string
	}{
		{base, nil, base}, {base, []int{}, base}, {base, []int{1}, base}, {base, []int{1, 3}, base}, {base, []int{2}, base}, {base, []int{2, 5}, base},
		{base, []int{1, 3, 3}, "1 { good } (2 5) 3 3"}, {base, []int{1, 4}, "1 { good } (2 5) 3 (4)"}, {base, []int{1, 4, 0, 1}, "1 { good } (2 5) 3 (4 0 1)"},
		{base, []int{2, 5, 7}, "1 { good } (2 5 7) 3"}, {base, []int{2, 6}, "1 { good } (2 5 (6)) 3"}, {base, []int{2, 4, 5}, "1 { good } (2 5 (4 5)) 3"},
		{base, []int{0}, "1 { good } (2 5) (0) 3"}, {base, []int{3, 1}, "1 { good } (2 5) (3 1) 3"}, {base, []int{99999, 0}, "1 { good } (2 5) (99999 0) 3"},
		{"", nil, ""}, {"", []int{0}, "0"}, {"", []int{4, 4, 99999}, "4 4 99999"},
		{"1 (2) (3 { x } 4 (5))", []int{3, 5, 6}, "1 (2) (3 { x } 4 (5 6))"},
	} {
		told(t, "Add to "+c.s, c.want)(tale.Add(of(t, c.s), c.line))
	}
}

// P22.3: numbers that may not be, in each call that is handed a line.
func TestWrongLines(t *testing.T) {
	for _, l := range [][]api.Node{nil, of(t, base)} {
		for _, n := range []int{-1, 100000, math.MinInt, math.MaxInt} {
			for _, line := range [][]int{{n}, {1, n}, {n, 1}, {1, 3, n, 4}, slices.Repeat([]int{n}, 500), append(make([]int, 500), n)} {
				refused(t, "Add", api.ErrArg)(tale.Add(l, line))
				refused(t, "Cut", api.ErrArg)(tale.Cut(l, line))
				refused(t, "Raise", api.ErrArg)(tale.Raise(l, line))
			}
		}
	}
}

// P22.3: as many nodes as may be, behind Add.
func TestAddTooMany(t *testing.T) {
	whole := strings.TrimSpace(strings.Repeat("0 ", api.MaxNodes))
	told(t, "Add to nothing", whole)(tale.Add(nil, make([]int, api.MaxNodes)))
	refused(t, "Add to nothing", api.ErrLimit)(tale.Add(nil, make([]int, api.MaxNodes+1)))
	refused(t, "Add to nothing", api.ErrLimit)(tale.Add(nil, make([]int, 1<<24)))
	full := of(t, whole)
	told(t, "Add of the whole", whole)(tale.Add(full, make([]int, api.MaxNodes)))
	told(t, "Add of a part", whole)(tale.Add(full, []int{0, 0}))
	refused(t, "Add behind the whole", api.ErrLimit)(tale.Add(full, make([]int, api.MaxNodes+1)))
	refused(t, "Add to the whole", api.ErrLimit)(tale.Add(full, []int{1}))
	rest := api.MaxNodes - 4
	told(t, "Add of the rest", base+strings.Repeat(" 0", rest))(tale.Add(of(t, base), append([]int{1, 3}, make([]int, rest)...)))
	refused(t, "Add of more", api.ErrLimit)(tale.Add(of(t, base), append([]int{1, 3}, make([]int, rest+1)...)))
}

// P22.3: all lines of both, with the notes of the first one ahead of the second one's.
func TestMerge(t *testing.T) {
	for _, c := range [][3]string{
		{"", "", ""}, {"", base, base}, {base, "", base}, {base, base, base},
		{base, "2 { x } (1 { bad } 3 { y }) 6", "1 { good } (2 { x } 5 (6)) 3 { y }"},
		{"2 { x } (1 { bad } 3 { y }) 6", base, "2 { x } (1 { bad } 3 { y }) 6 (5)"},
		{"1 (2) (3)", "5 (3) (4) (1)", "1 (2) (3) (5) (4)"},
		{"1 2", "2 1", "1 (2 1) 2"},
		{"1 { a }", "1 2 { b } (3 { c } 4 { d })", "1 { a } 2 { b } (3 { c } 4 { d })"},
		{"1 2 3 4", "1 { a } 2 { b } 3 { c } 4 { d }", "1 { a } 2 { b } 3 { c } 4 { d }"},
		{"1 { a } 2 3 { c } 4", "1 { x } 2 { b } 3 { x } 4 { d }", "1 { a } 2 { b } 3 { c } 4 { d }"},
		{"1 (2 { x } 3)", "2 { y } 3 { z } (4 { w })", "1 (2 { x } 3 { z } (4 { w }))"},
		{"7 (8 9 (10))", "8 10 11 (12) (13 { n } 14)", "7 (8 9 (10 11 (12) (13 { n } 14)))"},
	} {
		told(t, "Merge of "+c[0]+" and "+c[1], c[2])(tale.Merge(of(t, c[0]), of(t, c[1])))
	}
}

// P22.3: as many nodes as may be, behind Merge: what is in both counts once.
func TestMergeTooMany(t *testing.T) {
	for _, c := range []struct {
		wide, long int
		e          api.Errno
	}{
		{200, 200, api.OK}, {200, 201, api.OK}, {200, 202, api.ErrLimit}, {1, 399, api.OK}, {1, 400, api.ErrLimit}, {400, 1, api.OK}, {400, 2, api.ErrLimit}, {400, 400, api.ErrLimit},
	} {
		a, b := numbered(c.wide), chained(c.long)
		for _, both := range [][2][]api.Node{{a, b}, {b, a}} {
			if l, e := tale.Merge(both[0], both[1]); e != c.e || !tale.May(l) || (len(l) == 0) != (e != api.OK) {
				t.Errorf("Merge of %d wide and %d long = %d nodes, %d", c.wide, c.long, len(l), e)
			}
		}
		for _, l := range [][]api.Node{a, b} {
			if again, e := tale.Merge(l, l); e != api.OK || !tale.Same(again, l) {
				t.Errorf("Merge of itself = %d", e)
			}
		}
	}
}

// P22.3: a line's last node goes, with what is behind it.
func TestCut(t *testing.T) {
	for _, c := range []struct {
		s    string
		line []int
		want string
	}{
		{base, []int{1}, "2 5"}, {base, []int{2}, "1 { good } 3"}, {base, []int{1, 3}, "1 { good } (2 5)"}, {base, []int{2, 5}, "1 { good } (2) 3"},
		{"4", []int{4}, ""}, {"4 5 6", []int{4}, ""}, {"4 5 6", []int{4, 5}, "4"}, {"4 5 6", []int{4, 5, 6}, "4 5"}, {"4 4 4", []int{4, 4}, "4"},
		{"1 (2) (3) (4) 5", []int{3}, "1 (2) (4) 5"}, {"1 (2) (3) (4) 5", []int{4}, "1 (2) (3) 5"}, {"1 (2) (3 6 { a }) 5", []int{1}, "2 (3 6 { a })"},
		{"1 2 (3 { a } 5) (4) 6", []int{1, 2}, "1 3 { a } (4) 5"}, {"1 2 (3 { a } 5) (4) 6", []int{1, 3}, "1 2 (4) 6"}, {"1 2 (3 { a } 5) (4) 6", []int{1, 3, 5}, "1 2 (3 { a }) (4) 6"},
	} {
		told(t, "Cut of "+c.s, c.want)(tale.Cut(of(t, c.s), c.line))
	}
}

// P22.3: each node of a line comes first; the others keep their order.
func TestRaise(t *testing.T) {
	for _, c := range []struct {
		s    string
		line []int
		want string
	}{
		{base, []int{1}, base}, {base, []int{1, 3}, base}, {base, []int{2}, "2 (1 { good } 3) 5"}, {base, []int{2, 5}, "2 (1 { good } 3) 5"},
		{"1 2 (3) (4)", []int{1, 4}, "1 4 (2) (3)"}, {"1 2 (3) (4)", []int{1, 3}, "1 3 (2) (4)"}, {"1 2 (3) (4)", []int{1, 2}, "1 2 (3) (4)"},
		{"1 (2) (3) (4)", []int{4}, "4 (1) (2) (3)"}, {"1 (2) (3) (4) 5", []int{3}, "3 (1 5) (2) (4)"},
		{"1 (2 3 (4 { a } 5 (6))) 7", []int{2}, "2 (1 7) 3 (4 { a } 5 (6))"}, {"1 (2 3 (4 { a } 5 (6))) 7", []int{2, 4}, "2 (1 7) 4 { a } (3) 5 (6)"}, {"1 (2 3 (4 { a } 5 (6))) 7", []int{2, 4, 6}, "2 (1 7) 4 { a } (3) 6 (5)"},
		{"0 1 (0) 1 (0)", []int{0, 1, 0}, "0 1 (0) 0 (1)"}, {"0 1 (0) 1 (0)", []int{0, 0}, "0 0 (1 1 (0))"},
	} {
		told(t, "Raise of "+c.s, c.want)(tale.Raise(of(t, c.s), c.line))
	}
}

// P22.3: where there is no such line, nothing is cut nor raised.
func TestNoSuchLine(t *testing.T) {
	for _, c := range []struct {
		s    string
		line []int
	}{
		{"", nil}, {"", []int{0}}, {base, nil}, {base, []int{}}, {base, []int{0}}, {base, []int{3}}, {base, []int{5}}, {base, []int{1, 5}}, {base, []int{1, 1}}, {base, []int{2, 3}}, {base, []int{1, 3, 3}}, {base, []int{2, 5, 0}}, {base, make([]int, 1<<20)},
		{"0 0 0", make([]int, 4)}, {straight(api.MaxNodes), make([]int, api.MaxNodes+1)},
	} {
		refused(t, "Cut", api.ErrNone)(tale.Cut(of(t, c.s), c.line))
		refused(t, "Raise", api.ErrNone)(tale.Raise(of(t, c.s), c.line))
	}
}
