package can

import (
	"joust/aim"
	"joust/api"
	"joust/board"
	"joust/eval"
)

// afford is Afford of an effect that was found, for a player. What it needs comes last, as that may take long to tell.
func afford(t api.Table, who uint8, x ability) bool {
	e := x.effect
	return !wasUsed(x) && canPay(t.Life[who], e.Pay) && e.Discard <= others(t, who, x.id) && e.Pick <= len(aim.Cards(t, who, x.id, e)) && eval.All(t, who, x.id, e.Cond)
}

// wasUsed is no of an effect that stands so far on that Used has no bit for it.
func wasUsed(x ability) bool { return x.kind == api.Unit && x.piece.Used>>x.number&1 == 1 }

func canPay(life, pay int) bool { return pay == 0 || life > pay }

// others is how many cards beside that one a player has in hand.
func others(t api.Table, who uint8, id int) int {
	count := 0
	for _, card := range board.In(t, who, api.Hand) {
		if card != id {
			count++
		}
	}
	return count
}
