// Package scan is layer 1: see shared/doc/01-scan.md.
package scan

import (
	"strings"
	"unicode"
	"unicode/utf8"

	"joust/api"
)

const marks = "{}():;+*<=-"

func Tokens(text string) ([]api.Token, api.Fault) {
	here := beginning()
	if len(text) > api.MaxText {
		return nil, api.Fault{E: api.ErrLimit, At: here}
	}
	var list []api.Token
	remark := false
	behind := 0 // the runes ahead of this byte belong to the last token
	for at, r := range text {
		switch {
		case broken(text[at:], r):
			return nil, api.Fault{E: api.ErrRune, At: here}
		case at < behind:
		case remark:
			remark = r != '\n'
		case r == '#':
			remark = true
		case !blank(r):
			kind, size, e := tokenAt(text[at:])
			if e != api.OK {
				return nil, api.Fault{E: e, At: here}
			}
			behind = at + size
			// A piece of the text would keep all of it.
			list = append(list, api.Token{Kind: kind, Text: strings.Clone(text[at:behind]), At: here})
		}
		here = next(here, r)
	}
	return append(list, api.Token{Kind: api.TokEnd, At: here}), api.Fault{}
}

func Word(s string) bool {
	size, runes := wordAt(s)
	return size > 0 && size == len(s) && runes <= api.MaxWord
}

func Where(text string, at int) api.Spot {
	here, behind := beginning(), beginning()
	for from, r := range text {
		if from > at {
			return here
		}
		here, behind = behind, next(behind, r)
	}
	if at >= len(text) {
		return behind
	}
	return here
}

func beginning() api.Spot { return api.Spot{Line: 1, Col: 1} }

func next(here api.Spot, r rune) api.Spot {
	if r == '\n' {
		return api.Spot{Line: here.Line + 1, Col: 1}
	}
	return api.Spot{Line: here.Line, Col: here.Col + 1}
}

// broken looks at s beside its first rune, because a range tells RuneError of a U+FFFD that is written out, too.
func broken(s string, r rune) bool {
	return r == utf8.RuneError && !strings.HasPrefix(s, string(utf8.RuneError))
}

func blank(r rune) bool { return r == ' ' || r == '\t' || r == '\r' || r == '\n' }

func digit(r rune) bool { return '0' <= r && r <= '9' }

func tokenAt(s string) (kind uint8, size int, e api.Errno) {
	if size, runes := wordAt(s); size > 0 {
		if runes > api.MaxWord {
			return 0, 0, api.ErrLimit
		}
		return api.TokWord, size, api.OK
	}
	if size, value := numberAt(s); size > 0 {
		if e := numberFault(s, size, value); e != api.OK {
			return 0, 0, e
		}
		return api.TokNumber, size, api.OK
	}
	if strings.IndexByte(marks, s[0]) >= 0 {
		return api.TokMark, 1, api.OK
	}
	return 0, 0, api.ErrRune
}

func wordAt(s string) (size, runes int) {
	seen := 0
	for at, r := range s {
		if !unicode.IsLetter(r) && (at == 0 || r != '-' && !digit(r)) {
			break
		}
		seen++
		if r != '-' { // behind a - the word ends only if something follows
			size, runes = at+utf8.RuneLen(r), seen
		}
	}
	return size, runes
}

// numberAt stops counting above MaxNumber: there may be more digits than an int holds.
func numberAt(s string) (size, value int) {
	for _, r := range s {
		if !digit(r) {
			break
		}
		size++
		value = min(10*value+int(r-'0'), api.MaxNumber+1)
	}
	return size, value
}

func numberFault(s string, size, value int) api.Errno {
	behind, _ := utf8.DecodeRuneInString(s[size:])
	switch {
	case value > api.MaxNumber:
		return api.ErrLimit
	case s[0] == '0' && size > 1, unicode.IsLetter(behind):
		return api.ErrWord
	}
	return api.OK
}
