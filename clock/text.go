package clock

import (
	"strconv"

	"joust/api"
)

func Text(c api.Clock, now int) string {
	left, falls, e := Look(c, now)
	if e != api.OK {
		return ""
	}
	if falls {
		c.On, c.Fell = false, c.Who
	}
	return minutes(left[0]) + mark(c, 0) + " " + minutes(left[1]) + mark(c, 1)
}

// mark is what stands behind a player's time.
func mark(c api.Clock, who uint8) string {
	switch {
	case c.Fell == who:
		return " fell"
	case c.On && c.Who == who:
		return "*"
	}
	return ""
}

func minutes(ticks int) string { return strconv.Itoa(ticks/60) + ":" + twoDigits(ticks%60) }

// twoDigits tells a number below 100; the hundred ahead of it keeps the nought of a single digit.
func twoDigits(n int) string { return strconv.Itoa(100 + n)[1:] }
