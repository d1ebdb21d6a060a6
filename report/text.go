package report

import (
	"strconv"
	"strings"

	"joust/api"
)

func line(words ...string) string { return strings.Join(words, " ") + "\n" }

func number(n int) string { return strconv.Itoa(n) }

func faulty(what string, f api.Fault) string {
	return line(what, number(int(f.E)), number(f.At.Line), number(f.At.Col))
}

// ending tells how a duel stands where its script ends.
func ending(d api.Duel) string {
	t := d.Table
	text := line("life", number(t.Life[0]), number(t.Life[1])) +
		line("turn", number(t.Turn), "player", number(int(t.Player))) +
		line("stage", number(int(d.Stage)))
	if d.Stage == api.AtOver {
		text += line("over", number(int(d.Reason)), number(int(d.Winner)))
	}
	return text
}
