package parse_test

import (
	"math/rand/v2"
	"reflect"
	"slices"
	"strconv"
	"strings"
	"testing"

	"joust/api"
	"joust/parse"
	"joust/scan"
)

// maker makes cards by lot, and tells them as tokens as the chapter's table does.
type maker struct {
	lot *rand.Rand
	out []string
}

func (m *maker) say(words ...string) { m.out = append(m.out, words...) }

func (m *maker) pick(words string) uint8 {
	l := strings.Fields(words)
	i := m.lot.IntN(len(l))
	m.say(l[i])
	return uint8(i)
}

func (m *maker) maybe() bool { return m.lot.IntN(2) == 0 }

func (m *maker) number() int {
	n := []int{0, 1, 7, 500, api.MaxNumber}[m.lot.IntN(5)]
	m.say(strconv.Itoa(n))
	return n
}

func some[T any](m *maker, most int, one func() T) []T {
	var l []T
	for range m.lot.IntN(most + 1) {
		l = append(l, one())
	}
	return l
}

func (m *maker) side() uint8 { return m.pick("mine theirs any self") }

func (m *maker) sel() api.Sel {
	side, zone := m.side(), m.pick("deck hand row back grave exile")
	return api.Sel{Side: side, Zone: zone, Kind: m.pick("all unit spell quick trap counter")}
}

func (m *maker) expr(deep int) api.Expr {
	what := m.lot.IntN(5)
	if deep == 1 {
		what = m.lot.IntN(4)
	}
	switch what {
	case 0:
		return api.Expr{Op: api.ExNumber, N: m.number()}
	case 1:
		m.say("life")
		return api.Expr{Op: api.ExLife, Side: m.side()}
	case 2:
		m.say("count")
		return api.Expr{Op: api.ExCount, Sel: m.sel()}
	case 3:
		m.say("power")
		return api.Expr{Op: api.ExAttack}
	}
	m.say("(")
	x := api.Expr{Op: api.ExAdd + m.pick("+ - * < = and or not")}
	x.Args = append(x.Args, m.expr(deep-1))
	if x.Op != api.ExNot {
		x.Args = append(x.Args, m.expr(deep-1))
	}
	m.say(")")
	return x
}

func (m *maker) step() api.Step {
	s := api.Step{Do: m.pick("draw mill damage heal destroy banish bounce boost revive token negate")}
	switch s.Do {
	case api.StDraw, api.StMill, api.StDamage, api.StHeal, api.StToken:
		s.Side = m.side()
		s.N = m.expr(api.MaxDepth - 1)
	case api.StBoost:
		s.N = m.expr(api.MaxDepth - 1)
		fallthrough
	case api.StDestroy, api.StBanish, api.StBounce, api.StRevive:
		if s.All = m.maybe(); s.All {
			s.Sel = m.sel()
		}
	}
	m.say(";")
	return s
}

func (m *maker) effect() api.Effect {
	e := api.Effect{Mode: m.pick("play act swift when if must aura")}
	if m.maybe() {
		m.say("upon")
		e.Ev = api.EvTry + m.pick("try summon attack destroy damage link standby end")
		e.Side = m.side()
	}
	e.Cond = some(m, 3, func() api.Expr {
		m.say("needs")
		return m.expr(api.MaxDepth - 1)
	})
	if m.maybe() {
		m.say("pays")
		e.Pay = m.number()
	}
	if m.maybe() {
		m.say("drops")
		e.Discard = m.number()
	}
	if e.Tribute = m.maybe(); e.Tribute {
		m.say("spends")
	}
	if m.maybe() {
		m.say("picks")
		e.Pick = m.number()
		e.Sel = m.sel()
	}
	m.say(":")
	e.Steps = some(m, 3, m.step)
	return e
}

func (m *maker) card() api.Card {
	c := api.Card{Kind: m.pick("unit spell quick trap counter")}
	names := []string{"ogre", "é-1", "unit", "needs", "life"}
	c.Name = names[m.lot.IntN(len(names))]
	m.say(c.Name)
	if c.Kind == api.Unit {
		c.Level, c.Attack, c.Guard = m.number(), m.number(), m.number()
	}
	m.say("{")
	c.Effects = some(m, 2, m.effect)
	m.say("}")
	return c
}

// P2.1: cards that were made, told as tokens, are read as they are, whatever parts the tokens.
func TestMadeCards(t *testing.T) {
	for seed := range uint64(3000) {
		m := &maker{lot: rand.New(rand.NewPCG(seed, 2))}
		want := some(m, 3, m.card)
		var text strings.Builder
		for _, w := range m.out {
			text.WriteString(w)
			text.WriteString([]string{" ", "\n", "\t\r ", "# } é\n"}[m.lot.IntN(4)])
		}
		wantPool(t, text.String(), want)
	}
}

func TestMadeExprs(t *testing.T) {
	for seed := range uint64(3000) {
		m := &maker{lot: rand.New(rand.NewPCG(seed, 3))}
		want := some(m, api.MaxSteps, func() api.Expr { return m.expr(api.MaxDepth) })
		got, f := parse.Exprs(strings.Join(m.out, " "))
		if f != (api.Fault{}) || len(got) != len(want) || len(want) > 0 && !reflect.DeepEqual(got, want) {
			t.Errorf("Exprs(%q) = %v, %v; not %v", strings.Join(m.out, " "), got, f, want)
		}
	}
}

// line is what may stand somewhere: it goes on with then at each place where what it is about may end.
type line func(p *path, at int, then func(int))

// path is the tokens that the table is held against, and the furthest one at which no way went on.
type path struct {
	tokens []api.Token
	far    int
}

func (p *path) on(ok bool, at int, then func(int)) {
	if ok {
		then(at + 1)
	} else {
		p.far = max(p.far, at)
	}
}

func oneOf(words string) line {
	l := strings.Fields(words)
	return func(p *path, at int, then func(int)) { p.on(slices.Contains(l, p.tokens[at].Text), at, then) }
}

func ofKind(kind uint8) line {
	return func(p *path, at int, then func(int)) { p.on(p.tokens[at].Kind == kind, at, then) }
}

func row(lines ...line) line {
	return func(p *path, at int, then func(int)) {
		if len(lines) == 0 {
			then(at)
			return
		}
		lines[0](p, at, func(at int) { row(lines[1:]...)(p, at, then) })
	}
}

func either(lines ...line) line {
	return func(p *path, at int, then func(int)) {
		for _, l := range lines {
			l(p, at, then)
		}
	}
}

func orNot(l ...line) line { return either(row(l...), row()) }

func asMany(l ...line) line {
	return func(p *path, at int, then func(int)) {
		orNot(append(slices.Clone(l), asMany(l...))...)(p, at, then)
	}
}

func anExpr(p *path, at int, then func(int)) {
	side := oneOf("mine theirs any self")
	two := row(oneOf("+ - * < = and or"), anExpr, anExpr)
	either(ofKind(api.TokNumber), row(oneOf("life"), side), row(oneOf("count"), aSel()), oneOf("power"),
		row(oneOf("("), either(two, row(oneOf("not"), anExpr)), oneOf(")")))(p, at, then)
}

func aSel() line {
	return row(oneOf("mine theirs any self"), oneOf("deck hand row back grave exile"), oneOf("all unit spell quick trap counter"))
}

func aStep() line {
	return either(row(oneOf("draw mill damage heal token"), oneOf("mine theirs any self"), anExpr),
		row(oneOf("destroy banish bounce revive"), orNot(aSel())), row(oneOf("boost"), anExpr, orNot(aSel())), oneOf("negate"))
}

func anEffect() line {
	number := ofKind(api.TokNumber)
	return row(oneOf("play act swift when if must aura"),
		orNot(oneOf("upon"), oneOf("try summon attack destroy damage link standby end"), oneOf("mine theirs any self")),
		asMany(oneOf("needs"), anExpr), orNot(oneOf("pays"), number), orNot(oneOf("drops"), number), orNot(oneOf("spends")),
		orNot(oneOf("picks"), number, aSel()), oneOf(":"), asMany(aStep(), oneOf(";")))
}

func aCard() line {
	number, word := ofKind(api.TokNumber), ofKind(api.TokWord)
	return row(either(row(oneOf("unit"), word, number, number, number), row(oneOf("spell quick trap counter"), word)),
		oneOf("{"), asMany(anEffect()), oneOf("}"))
}

// told holds a text against the table: the first token that may not stand where it is.
func told(text string, l line) api.Fault {
	tokens, f := scan.Tokens(text)
	if f != (api.Fault{}) {
		return f
	}
	p := &path{tokens: tokens}
	whole := false
	l(p, 0, func(at int) { p.on(tokens[at].Kind == api.TokEnd, at, func(int) { whole = true }) })
	if whole {
		return api.Fault{}
	}
	return api.Fault{E: api.ErrWord, At: tokens[p.far].At}
}

const vocabulary = "unit spell quick trap counter play act swift when if must aura upon needs pays drops spends picks try summon attack destroy damage link standby end mine theirs any self deck hand row back grave exile all draw mill heal token banish bounce revive boost negate life count power not and or + - * < = ( ) { } : ; 7 ogre"

// changed tells texts that are as the words, but for one of them: another one there, one more ahead of it, none; or nothing from there on.
func changed(words []string, at int, do func(string)) {
	ahead, behind := words[:at], words[at+1:]
	join := func(parts ...[]string) { do(strings.Join(slices.Concat(parts...), " ")) }
	for _, w := range strings.Fields(vocabulary) {
		join(ahead, []string{w}, behind)
		join(ahead, []string{w}, words[at:])
	}
	join(ahead, behind)
	join(ahead)
}

// P2.1: of a text that is wrong at one place the first token that may not stand there is told, as the table says; each other one is read.
func TestWrongTokens(t *testing.T) {
	for seed := range uint64(10) {
		m := &maker{lot: rand.New(rand.NewPCG(seed, 4))}
		some(m, 2, m.card)
		for i := range m.out {
			changed(m.out, i, func(text string) {
				if l, f := parse.Pool(text); f != told(text, asMany(aCard())) || f.E != api.OK && l != nil {
					t.Errorf("Pool(%q) = %v, not %v", text, f, told(text, asMany(aCard())))
				}
			})
		}
	}
}

func TestWrongTokensOfExprs(t *testing.T) {
	for seed := range uint64(30) {
		m := &maker{lot: rand.New(rand.NewPCG(seed, 5))}
		some(m, api.MaxSteps-1, func() api.Expr { return m.expr(api.MaxDepth - 1) })
		for i := range m.out {
			changed(m.out, i, func(text string) {
				// One that is split may come to more than there may be.
				want := told(text, asMany(anExpr))
				if l, f := parse.Exprs(text); f.E != api.ErrLimit && f != want || f.E != api.OK && l != nil {
					t.Errorf("Exprs(%q) = %v, not %v", text, f, want)
				}
			})
		}
	}
}

// P2.1: short texts of any tokens.
func TestShortTexts(t *testing.T) {
	words := strings.Fields("unit trap a 7 { } act : ; ( ) not + draw mine power")
	var grow func(text string, left int)
	grow = func(text string, left int) {
		if _, f := parse.Pool(text); f != told(text, asMany(aCard())) {
			t.Errorf("Pool(%q) = %v", text, f)
		}
		if _, f := parse.Exprs(text); f != told(text, asMany(anExpr)) {
			t.Errorf("Exprs(%q) = %v", text, f)
		}
		for _, w := range words {
			if left > 0 {
				grow(text+" "+w, left-1)
			}
		}
	}
	grow("", 3)
	grow("trap a { act :", 3)
	grow("unit a 7 7", 3)
	grow("( + 7", 3)
}
