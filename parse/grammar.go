package parse

import "joust/api"

// The words of a kind stand here as its constants do in api: a word's place is its number.

func kinds() []string { return []string{"unit", "spell", "quick", "trap", "counter"} }

func modes() []string {
	return []string{"play", "act", "swift", "when", "if", "must", "aura"}
}

// steps tells how each step is read behind its word.
func steps() map[string]func(*reader) api.Step {
	return map[string]func(*reader) api.Step{
		"draw":    amount(api.StDraw),
		"mill":    amount(api.StMill),
		"damage":  amount(api.StDamage),
		"heal":    amount(api.StHeal),
		"token":   amount(api.StToken),
		"destroy": pieces(api.StDestroy),
		"banish":  pieces(api.StBanish),
		"bounce":  pieces(api.StBounce),
		"revive":  pieces(api.StRevive),
		"boost":   boost,
		"negate":  negate,
	}
}

func (r *reader) card() api.Card {
	var c api.Card
	c.Kind = r.oneOf(kinds()...)
	c.Name = r.name()
	if c.Kind == api.Unit {
		c.Level = r.number()
		c.Attack = r.number()
		c.Guard = r.number()
	}
	r.mark("{")
	c.Effects = many(r, api.MaxEffects, oneWord(modes()), r.effect)
	r.mark("}")
	return c
}

func (r *reader) effect() api.Effect {
	var e api.Effect
	e.Mode = r.oneOf(modes()...)
	if r.skip("upon") {
		e.Ev = r.event()
		e.Side = r.side()
	}
	e.Cond = many(r, api.MaxSteps, oneWord([]string{"needs"}), r.need)
	if r.skip("pays") {
		e.Pay = r.number()
	}
	if r.skip("drops") {
		e.Discard = r.number()
	}
	e.Tribute = r.skip("spends")
	if r.skip("picks") {
		e.Pick = r.number()
		e.Sel = r.sel()
	}
	r.mark(":")
	e.Steps = many(r, api.MaxSteps, r.beginsStep, r.step)
	return e
}

func (r *reader) need() api.Expr {
	r.mark("needs")
	return r.expr()
}

func (r *reader) event() uint8 {
	return api.EvTry + r.oneOf("try", "summon", "attack", "destroy", "damage", "link", "standby", "end")
}

func (r *reader) side() uint8 { return r.oneOf("mine", "theirs", "any", "self") }

func (r *reader) sel() api.Sel {
	var s api.Sel
	s.Side = r.side()
	s.Zone = r.oneOf("deck", "hand", "row", "back", "grave", "exile")
	s.Kind = r.oneOf(append([]string{"all"}, kinds()...)...)
	return s
}

func (r *reader) beginsStep(t api.Token) bool { return r.steps[t.Text] != nil }

func (r *reader) step() api.Step {
	read := r.steps[r.next().Text]
	r.pass()
	s := read(r)
	r.mark(";")
	return s
}

func amount(do uint8) func(*reader) api.Step {
	return func(r *reader) api.Step {
		side := r.side()
		return api.Step{Do: do, Side: side, N: r.expr()}
	}
}

func pieces(do uint8) func(*reader) api.Step {
	return func(r *reader) api.Step { return r.of(api.Step{Do: do}) }
}

func boost(r *reader) api.Step { return r.of(api.Step{Do: api.StBoost, N: r.expr()}) }

func negate(*reader) api.Step { return api.Step{Do: api.StNegate} }

// of reads which cards a step is about: what is neither its end nor a sel is the sel's fault.
func (r *reader) of(s api.Step) api.Step {
	if r.next().Text != ";" {
		s.All = true
		s.Sel = r.sel()
	}
	return s
}

func beginsExpr(t api.Token) bool {
	switch t.Text {
	case "life", "count", "power", "(":
		return true
	}
	return t.Kind == api.TokNumber
}

func (r *reader) expr() api.Expr {
	switch {
	case r.next().Text == "(":
		return r.nested()
	case r.skip("life"):
		return api.Expr{Op: api.ExLife, Side: r.side()}
	case r.skip("count"):
		return api.Expr{Op: api.ExCount, Sel: r.sel()}
	case r.skip("power"):
		return api.Expr{Op: api.ExAttack}
	}
	return api.Expr{Op: api.ExNumber, N: r.number()}
}

// nested knows at its parenthesis how deep the outermost expression is at least: as many as are open, and what stands within them.
func (r *reader) nested() api.Expr {
	if r.depth+2 > api.MaxDepth {
		r.fail(api.ErrLimit)
		return api.Expr{}
	}
	r.mark("(")
	r.depth++
	x := api.Expr{Op: api.ExAdd + r.oneOf("+", "-", "*", "<", "=", "and", "or", "not")}
	x.Args = append(x.Args, r.expr())
	if x.Op != api.ExNot {
		x.Args = append(x.Args, r.expr())
	}
	r.depth--
	r.mark(")")
	return x
}
