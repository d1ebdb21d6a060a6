package record

import (
	"slices"

	"joust/api"
	"joust/duel"
)

// none is the number of no option.
const none = -1

// course is a duel on its way, and what is asked there: it is asked for anew behind a decision alone, as what is refused changes nothing.
type course struct {
	duel  api.Duel
	asked api.Prompt
}

func begun(d api.Duel) *course {
	return &course{duel.Copy(d), duel.Ask(d)}
}

// decide tells the line of a number; the duel goes on, if it isn't refused.
func (c *course) decide(n int) api.Line {
	line := api.Line{Who: c.asked.Who, Stage: c.asked.Stage, Refused: true}
	if n < 0 || n >= len(c.asked.Options) {
		return line
	}
	after, e := duel.Decide(c.duel, n)
	if e != api.OK {
		return line
	}
	line.Option, line.Refused = c.asked.Options[n], false
	c.duel, c.asked = after, duel.Ask(after)
	return line
}

// number is one of which this line may come.
func (c *course) number(line api.Line) int {
	if line.Refused {
		return none
	}
	return slices.Index(c.asked.Options, line.Option)
}
