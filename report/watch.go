package report

import (
	"joust/api"
	"joust/duel"
	"joust/view"
)

// watch sends what a player sees, at the beginning and behind each number: behind one that is refused it is the same again.
func watch(d api.Duel, script []int, who uint8, views chan<- api.View) {
	defer close(views)
	views <- view.Of(d, who)
	for _, n := range script {
		d, _ = duel.Decide(d, n)
		views <- view.Of(d, who)
	}
}
