package tale

import (
	"slices"
	"strconv"
	"strings"

	"joust/api"
)

func numberMay(n int) bool { return 0 <= n && n <= api.MaxNumber }

// noteMay says yes of no note, too.
func noteMay(s string) bool {
	return len(s) <= api.MaxNote && inNote(s) == s && strings.Trim(s, " ") == s
}

// inNote is the beginning of a text, up to what may be in no note.
func inNote(s string) string {
	return upTo(s, func(r rune) bool { return r < ' ' || r > '~' || r == '{' || r == '}' })
}

// upTo is the beginning of a text, up to the first rune that ends it.
func upTo(s string, ends func(r rune) bool) string {
	if i := strings.IndexFunc(s, ends); i >= 0 {
		return s[:i]
	}
	return s
}

func lineMay(line []int) bool {
	return !slices.ContainsFunc(line, func(n int) bool { return !numberMay(n) })
}

// placeOf is where a number stands in a list, or -1.
func placeOf(l []api.Node, number int) int {
	return slices.IndexFunc(l, func(n api.Node) bool { return n.N == number })
}

// has tells whether there is such a line; the empty one is none.
func has(l []api.Node, line []int) bool {
	for _, n := range line {
		i := placeOf(l, n)
		if i < 0 {
			return false
		}
		l = l[i].Kids
	}
	return len(line) > 0
}

// told is a node's text, without what comes behind it.
func told(n api.Node) string {
	s := strconv.Itoa(n.N)
	if n.Note != "" {
		s += " { " + n.Note + " }"
	}
	return s
}
