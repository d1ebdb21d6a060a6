package print

import (
	"strconv"
	"strings"

	"joust/api"
)

// writer holds the text so far, how deep the expression is that is being written, and whether no text can be read as what it was given. It need not find all that can't be read: what it leaves out is missed when the text is read again.
type writer struct {
	text strings.Builder
	deep int
	bad  bool
}

// put leaves out what would make the text longer than parse may read.
func (w *writer) put(s string) {
	if len(s) > api.MaxText-w.text.Len() {
		w.bad = true
		return
	}
	w.text.WriteString(s)
}

func (w *writer) token(s string) {
	w.put(s)
	w.put(" ")
}

func (w *writer) number(n int) { w.token(strconv.Itoa(n)) }

// line writes the last token of a line.
func (w *writer) line(s string) {
	w.token(s)
	w.put("\n")
}

// has tells whether there is a word of that number among so many.
func (w *writer) has(count int, number uint8) bool {
	if int(number) >= count {
		w.bad = true
		return false
	}
	return true
}

// each refuses what is too long to be read ahead of going through it: a list may stand in many places of what was handed in, in itself too.
func each[T any](w *writer, most int, list []T, write func(T)) {
	if len(list) > most {
		w.bad = true
		return
	}
	for _, one := range list {
		write(one)
	}
}

func (w *writer) pool(l []api.Card) { each(w, api.MaxKinds, l, w.card) }

func (w *writer) card(c api.Card) {
	w.kind(c.Kind)
	w.token(c.Name)
	if c.Kind == api.Unit {
		w.number(c.Level)
		w.number(c.Attack)
		w.number(c.Guard)
	}
	w.line("{")
	each(w, api.MaxEffects, c.Effects, w.effect)
	w.line("}")
}

func (w *writer) effect(e api.Effect) {
	w.mode(e.Mode)
	if e.Ev != api.EvNone {
		w.token("upon")
		w.event(e.Ev)
		w.side(e.Side)
	}
	each(w, api.MaxSteps, e.Cond, w.need)
	w.costs(e)
	if e.Pick != 0 || e.Sel != (api.Sel{}) {
		w.token("picks")
		w.number(e.Pick)
		w.sel(e.Sel)
	}
	if len(e.Steps) == 0 {
		w.line(":")
		return
	}
	w.token(":")
	each(w, api.MaxSteps, e.Steps, w.step)
}

func (w *writer) need(x api.Expr) {
	w.token("needs")
	w.expr(x)
}

func (w *writer) costs(e api.Effect) {
	if e.Pay != 0 {
		w.token("pays")
		w.number(e.Pay)
	}
	if e.Discard != 0 {
		w.token("drops")
		w.number(e.Discard)
	}
	if e.Tribute {
		w.token("spends")
	}
}

func (w *writer) sel(s api.Sel) {
	w.side(s.Side)
	w.zone(s.Zone)
	if s.Kind == 0 {
		w.token("all")
		return
	}
	w.kind(s.Kind - 1)
}

func (w *writer) step(s api.Step) {
	w.deed(s.Do)
	switch s.Do {
	case api.StDraw, api.StMill, api.StDamage, api.StHeal, api.StToken:
		w.side(s.Side)
		w.expr(s.N)
	case api.StBoost:
		w.expr(s.N)
	}
	if s.All {
		w.sel(s.Sel)
	}
	w.line(";")
}

func (w *writer) expr(x api.Expr) {
	switch x.Op {
	case api.ExNumber:
		w.number(x.N)
	case api.ExLife:
		w.operator(x.Op)
		w.side(x.Side)
	case api.ExCount:
		w.operator(x.Op)
		w.sel(x.Sel)
	case api.ExAttack:
		w.operator(x.Op)
	default:
		w.nested(x)
	}
}

func (w *writer) nested(x api.Expr) {
	w.deep++
	if w.deep < api.MaxDepth {
		w.token("(")
		w.operator(x.Op)
		each(w, 2, x.Args, w.expr)
		w.token(")")
	} else {
		w.bad = true
	}
	w.deep--
}
