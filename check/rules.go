package check

import "joust/api"

const maxLevel = 12

// rules are the chapter's nine, in its order. They are asked of cards that may be written alone: of no other does each expression end.
func rules() []func(api.Card) bool {
	return []func(api.Card) bool{
		kindFits,
		ofEffects(uponFits),
		ofEffects(spendFits),
		ofEffects(pickFits),
		selsFit,
		ofSteps(zoneFits),
		ofEffects(auraFits),
		ofSteps(negateFits),
		sidesFit,
	}
}

func keepsRules(c api.Card) bool {
	return all(rules(), func(rule func(api.Card) bool) bool { return rule(c) })
}

// kindFits is rule 1.
func kindFits(c api.Card) bool {
	if c.Kind == api.Unit {
		return 1 <= c.Level && c.Level <= maxLevel && all(c.Effects, func(e api.Effect) bool { return e.Mode != api.Play })
	}
	return c.Level == 0 && c.Attack == 0 && c.Guard == 0 && len(c.Effects) == 1 && c.Effects[0].Mode == api.Play
}

// uponFits is rule 2.
func uponFits(kind uint8, e api.Effect) bool {
	switch e.Mode {
	case api.Play:
		return e.Ev == api.EvNone || playFits(kind, e)
	case api.When, api.If, api.Must:
		return setsOff(e.Ev)
	}
	return e.Ev == api.EvNone
}

// playFits is what rule 2 says of a play upon an event.
func playFits(kind uint8, e api.Effect) bool {
	switch {
	case e.Side == api.Self, kind == api.Spell:
		return false
	case e.Ev == api.EvTry, e.Ev == api.EvLink:
		return kind == api.Counter
	}
	return true
}

// setsOff tells whether a trigger may be upon an event.
func setsOff(ev uint8) bool {
	switch ev {
	case api.EvSummon, api.EvAttack, api.EvDestroy, api.EvDamage, api.EvStandby, api.EvEnd:
		return true
	}
	return false
}

// spendFits is rule 3.
func spendFits(kind uint8, e api.Effect) bool {
	return !e.Tribute || kind == api.Unit && e.Mode != api.Aura
}

// pickFits is rule 4.
func pickFits(_ uint8, e api.Effect) bool {
	if e.Pick == 0 {
		return e.Sel == (api.Sel{}) && all(e.Steps, func(s api.Step) bool { return s.All || !takesSel(s.Do) })
	}
	switch e.Sel.Zone {
	case api.Row, api.Back, api.Grave, api.Exile:
		return e.Pick <= api.MaxPicks
	}
	return false
}

// takesSel tells whether a step is about cards.
func takesSel(do uint8) bool {
	switch do {
	case api.StDestroy, api.StBanish, api.StBounce, api.StRevive, api.StBoost:
		return true
	}
	return false
}

// selsFit is rule 5.
func selsFit(c api.Card) bool {
	own := all(c.Effects, func(e api.Effect) bool {
		return selFits(e.Sel) && all(e.Steps, func(s api.Step) bool { return selFits(s.Sel) })
	})
	return own && ofExprs(c, countsFit)
}

// countsFit is rule 5 of the counts of an expression.
func countsFit(x api.Expr) bool {
	return (x.Op != api.ExCount || selFits(x.Sel)) && all(x.Args, countsFit)
}

// selFits is rule 5 of one Sel; one that is all 0, as where there is none, keeps it.
func selFits(s api.Sel) bool {
	unseen := s.Zone == api.Deck || s.Zone == api.Hand
	return (!unseen || s.Kind == 0) && (s.Side != api.Self || s.Zone == api.Row)
}

// zoneFits is rule 6.
func zoneFits(_ uint8, e api.Effect, s api.Step) bool {
	zone := e.Sel.Zone
	if s.All {
		zone = s.Sel.Zone
	}
	switch s.Do {
	case api.StDestroy:
		return zone == api.Row || zone == api.Back
	case api.StBoost:
		return zone == api.Row
	case api.StRevive:
		return zone == api.Grave
	case api.StBanish, api.StBounce:
		return zone == api.Row || zone == api.Back || zone == api.Grave
	}
	return true
}

// auraFits is rule 7.
func auraFits(_ uint8, e api.Effect) bool {
	if e.Mode != api.Aura {
		return true
	}
	free := len(e.Cond) == 0 && e.Pay == 0 && e.Discard == 0 && e.Pick == 0
	return free && all(e.Steps, func(s api.Step) bool {
		return s.Do == api.StBoost && s.All && s.Sel.Zone == api.Row && s.N.Op == api.ExNumber
	})
}

// negateFits is rule 8.
func negateFits(kind uint8, e api.Effect, s api.Step) bool {
	upon := e.Ev == api.EvTry || e.Ev == api.EvLink
	return s.Do != api.StNegate || kind == api.Counter && e.Mode == api.Play && upon
}

// sidesFit is rule 9: no other step has a side.
func sidesFit(c api.Card) bool {
	steps := ofSteps(func(_ uint8, _ api.Effect, s api.Step) bool { return s.Side != api.Self })
	return steps(c) && ofExprs(c, livesFit)
}

// livesFit is rule 9 of the lives of an expression.
func livesFit(x api.Expr) bool {
	return (x.Op != api.ExLife || x.Side != api.Self) && all(x.Args, livesFit)
}
