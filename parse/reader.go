package parse

import (
	"slices"
	"strconv"

	"joust/api"
)

// reader goes through tokens: those that are left (the last one is the text's end), how steps are read, how many parentheses are open, and the first fault.
type reader struct {
	tokens []api.Token
	steps  map[string]func(*reader) api.Step
	depth  int
	fault  api.Fault
}

func (r *reader) next() api.Token { return r.tokens[0] }

func (r *reader) pass() {
	if len(r.tokens) > 1 {
		r.tokens = r.tokens[1:]
	}
}

// fail keeps the first fault, and leaves nothing but the text's end: there each list ends, and whatever else is wanted only fails again.
func (r *reader) fail(e api.Errno) {
	if r.fault.E == api.OK {
		r.fault = api.Fault{E: e, At: r.next().At}
	}
	r.tokens = r.tokens[len(r.tokens)-1:]
}

func (r *reader) skip(text string) bool {
	if r.next().Text != text {
		return false
	}
	r.pass()
	return true
}

func (r *reader) mark(text string) {
	if !r.skip(text) {
		r.fail(api.ErrWord)
	}
}

func (r *reader) name() string {
	t := r.next()
	if t.Kind != api.TokWord {
		r.fail(api.ErrWord)
		return ""
	}
	r.pass()
	return t.Text
}

func (r *reader) number() int {
	t := r.next()
	n, err := strconv.Atoi(t.Text)
	if t.Kind != api.TokNumber || err != nil {
		r.fail(api.ErrWord)
		return 0
	}
	r.pass()
	return n
}

// oneOf tells the place of the next token among words.
func (r *reader) oneOf(words ...string) uint8 {
	place := slices.Index(words, r.next().Text)
	if place < 0 {
		r.fail(api.ErrWord)
		return 0
	}
	r.pass()
	return uint8(place)
}

// many reads as many as begin, one behind the other. The one that is too many is not read: its first token is the fault, whatever follows.
func many[T any](r *reader, most int, begins func(api.Token) bool, read func() T) []T {
	var list []T
	for begins(r.next()) {
		if len(list) == most {
			r.fail(api.ErrLimit)
			return nil
		}
		list = append(list, read())
	}
	return list
}

func oneWord(words []string) func(api.Token) bool {
	return func(t api.Token) bool { return slices.Contains(words, t.Text) }
}
