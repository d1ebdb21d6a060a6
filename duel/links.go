package duel

import (
	"joust/api"
	"joust/chain"
)

// activate begins to choose what an effect is about.
func (g *game) activate(r api.Ready, ordered bool) {
	g.Choice, g.Ordered = api.Choice{Ready: r}, ordered
	g.choose()
}

// choose asks for the next pick, as long as one is missing.
func (g *game) choose() {
	r := g.Choice.Ready
	e, _ := chain.Effect(g.Table, r.Piece, r.Effect)
	if len(g.Choice.Picks) < e.Pick {
		g.Stage = api.AtPick
		return
	}
	g.link()
}

// link begins the effect that was chosen; if that is refused, it goes on as if there were a link.
func (g *game) link() {
	r := g.Choice.Ready
	t, link, e := chain.Begin(g.Table, r.Who, r.Piece, r.Effect, g.Choice.Picks)
	if e == api.OK {
		g.Table, g.Links = t, append(g.Links, link)
	}
	g.Choice = api.Choice{}
	switch {
	case len(g.Links) >= api.MaxChain:
		g.Waits = nil
		g.undo()
	case g.Ordered:
		g.order()
	default:
		g.answers(other(r.Who))
	}
}

// answers asks for what comes upon what happened, or upon the last link.
func (g *game) answers(who uint8) {
	g.Stage, g.Asked, g.Passes = api.AtAnswer, who, 0
}

// undo brings the chain to its end.
func (g *game) undo() {
	t, negated := chain.End(g.Table, g.Links)
	g.Table, g.Links = t, nil
	if g.Trying && negated {
		g.Negated = true
	}
	g.settle(g.Then)
}
