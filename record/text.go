package record

import (
	"math"
	"strconv"
	"strings"

	"joust/api"
)

// refused stands where a line has no option.
const refused = "-"

// bounds are the least and the most of each number of a line.
var bounds = [5][2]int{{0, 1}, {0, math.MaxUint8}, {0, math.MaxUint8}, {-1, api.MaxNumber}, {-1, api.MaxNumber}}

func told(line api.Line) string {
	words := []string{strconv.Itoa(int(line.Who)), strconv.Itoa(int(line.Stage))}
	if line.Refused {
		words = append(words, refused)
	} else {
		o := line.Option
		words = append(words, strconv.Itoa(int(o.Do)), strconv.Itoa(o.Piece), strconv.Itoa(o.Arg))
	}
	return strings.Join(words, " ") + "\n"
}

// read is the line that a text tells. It must be told just so: what Fields and Atoi make of other blanks, signs and noughts is the same.
func read(text string) (api.Line, bool) {
	line, ok := meant(strings.Fields(text))
	if !ok || told(line) != text {
		return api.Line{}, false
	}
	return line, true
}

// meant is the line of some words, if there are as many as there must be, and each number is in its bounds.
func meant(words []string) (api.Line, bool) {
	isRefused := len(words) == 3 && words[2] == refused
	if isRefused {
		words = words[:2]
	} else if len(words) != len(bounds) {
		return api.Line{}, false
	}
	var n [len(bounds)]int
	for i, word := range words {
		x, e := strconv.Atoi(word)
		if e != nil || x < bounds[i][0] || x > bounds[i][1] {
			return api.Line{}, false
		}
		n[i] = x
	}
	o := api.Option{Do: uint8(n[2]), Piece: n[3], Arg: n[4]}
	return api.Line{Who: uint8(n[0]), Stage: uint8(n[1]), Option: o, Refused: isRefused}, true
}
