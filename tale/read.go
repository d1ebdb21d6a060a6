package tale

import (
	"strconv"
	"strings"

	"joust/api"
)

// Read stays where the first fault is: nothing is passed behind it.
func Read(s string) ([]api.Node, int, api.Errno) {
	if len(s) > api.MaxText {
		return nil, 0, api.ErrLimit
	}
	at, left, fault := 0, api.MaxNodes, api.OK
	need := func(ok bool, e api.Errno) {
		if !ok && fault == api.OK {
			fault = e
		}
	}
	pass := func(text string) bool {
		ok := fault == api.OK && strings.HasPrefix(s[at:], text)
		if ok {
			at += len(text)
		}
		return ok
	}
	node := func(beside []api.Node) api.Node {
		digits := digitsOf(s[at:])
		number, ok := numberOf(digits)
		need(ok, api.ErrWord)
		need(left > 0, api.ErrLimit)
		pass(digits)
		left--
		need(placeOf(beside, number) < 0, api.ErrWord)
		if !pass(" {") {
			return api.Node{N: number}
		}
		inside := inNote(s[at:])
		note, ok := noteOf(inside)
		pass(inside)
		need(ok && pass("}"), api.ErrWord)
		return api.Node{N: number, Note: note}
	}
	var nodes func(ahead string) []api.Node
	nodes = func(ahead string) []api.Node {
		if !pass(ahead) {
			return nil
		}
		l := []api.Node{node(nil)}
		for pass(" (") {
			other := node(l)
			other.Kids = nodes(" ")
			need(pass(")"), api.ErrWord)
			l = append(l, other)
		}
		l[0].Kids = nodes(" ")
		return l
	}
	var l []api.Node
	if s != "" {
		l = nodes("")
	}
	need(at == len(s), api.ErrWord)
	if fault != api.OK {
		return nil, at, fault
	}
	return l, 0, api.OK
}

func digitsOf(s string) string {
	return upTo(s, func(r rune) bool { return r < '0' || r > '9' })
}

// numberOf holds what Atoi makes of digits against them: it passes needless noughts.
func numberOf(digits string) (int, bool) {
	n, e := strconv.Atoi(digits)
	return n, e == nil && numberMay(n) && strconv.Itoa(n) == digits
}

// noteOf is what stands between the two blanks of what stands between braces, if that is a note.
func noteOf(inside string) (string, bool) {
	note, isAhead := strings.CutPrefix(inside, " ")
	note, isBehind := strings.CutSuffix(note, " ")
	return note, isAhead && isBehind && note != "" && noteMay(note)
}
