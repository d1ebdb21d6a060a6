package print_test

import (
	"math/rand/v2"
	"strconv"
	"strings"
	"testing"

	"joust/api"
	"joust/parse"
	"joust/print"
)

func number(n int) api.Expr { return api.Expr{N: n} }

// effectOf and stepOf are pools of a spell that has nothing but that effect, or one effect of nothing but that step; effectText and stepText their texts.
func effectOf(e api.Effect) []api.Card {
	return []api.Card{{Name: "a", Kind: api.Spell, Effects: []api.Effect{e}}}
}

func stepOf(s api.Step) []api.Card { return effectOf(api.Effect{Steps: []api.Step{s}}) }

func effectText(s string) string { return "spell a { \n" + s + "} \n" }

func stepText(s string) string { return effectText("play : " + s + " ; \n") }

func wantText(t *testing.T, l []api.Card, want string) {
	t.Helper()
	if s, e := print.Pool(l); s != want || e != api.OK || !print.May(l) {
		t.Errorf("Pool(%v) = %q, %v; May = %v; not %q", l, s, e, print.May(l), want)
	}
	if again, f := parse.Pool(want); f != (api.Fault{}) || !print.Same(again, l) {
		t.Errorf("Pool(%q) of parse = %v, %v; not %v", want, again, f, l)
	}
}

func wantNone(t *testing.T, l []api.Card) {
	t.Helper()
	if s, e := print.Pool(l); s != "" || e != api.ErrArg || print.May(l) {
		t.Errorf("Pool(%v) = %.80q, %v; May = %v", l, s, e, print.May(l))
	}
}

func wantExpr(t *testing.T, x api.Expr, want string) {
	t.Helper()
	if s, e := print.Expr(x); s != want || e != api.OK {
		t.Errorf("Expr(%v) = %q, %v; not %q", x, s, e, want)
	}
}

func wantNoExpr(t *testing.T, x api.Expr) {
	t.Helper()
	if s, e := print.Expr(x); s != "" || e != api.ErrArg {
		t.Errorf("Expr(%v) = %.80q, %v", x, s, e)
	}
}

// P3.1: the chapter's examples, and pools of nothing.
func TestExamples(t *testing.T) {
	rain := []api.Card{{Name: "rain", Kind: api.Spell, Effects: []api.Effect{{Steps: []api.Step{{Do: api.StDamage, Side: api.Theirs, N: number(500)}}}}}}
	wantText(t, rain, "spell rain { \nplay : damage theirs 500 ; \n} \n")
	wantExpr(t, api.Expr{Op: api.ExAdd, Args: []api.Expr{number(1), {Op: api.ExAttack}}}, "( + 1 power ) ")
	wantNoExpr(t, number(100000))
	wantText(t, nil, "")
	wantText(t, []api.Card{}, "")
	wantExpr(t, api.Expr{}, "0 ")
}

// P3.1: each word, by the constant that it stands for, and the lines of a card of each kind.
func TestEachWord(t *testing.T) {
	sel := func(words string) []string { return strings.Fields(words) }
	for i, w := range sel("unit spell quick trap counter") {
		c := api.Card{Name: "é-1", Kind: uint8(i)}
		want := w + " é-1 { \n} \n"
		if i == api.Unit {
			c.Level, c.Guard = 12, api.MaxNumber
			want = "unit é-1 12 0 99999 { \n} \n"
		}
		wantText(t, []api.Card{c}, want)
	}
	for i, w := range sel("play act swift when if must aura") {
		wantText(t, effectOf(api.Effect{Mode: uint8(i)}), effectText(w+" : \n"))
	}
	for i, w := range sel("try summon attack destroy damage link standby end") {
		wantText(t, effectOf(api.Effect{Ev: api.EvTry + uint8(i)}), effectText("play upon "+w+" mine : \n"))
	}
	for i, w := range sel("mine theirs any self") {
		wantText(t, effectOf(api.Effect{Ev: api.EvEnd, Side: uint8(i)}), effectText("play upon end "+w+" : \n"))
		wantText(t, stepOf(api.Step{Side: uint8(i)}), stepText("draw "+w+" 0"))
		wantExpr(t, api.Expr{Op: api.ExLife, Side: uint8(i)}, "life "+w+" ")
		wantExpr(t, api.Expr{Op: api.ExCount, Sel: api.Sel{Side: uint8(i), Zone: api.Row}}, "count "+w+" row all ")
	}
	for i, w := range sel("deck hand row back grave exile") {
		wantExpr(t, api.Expr{Op: api.ExCount, Sel: api.Sel{Zone: uint8(i)}}, "count mine "+w+" all ")
	}
	for i, w := range sel("all unit spell quick trap counter") {
		wantExpr(t, api.Expr{Op: api.ExCount, Sel: api.Sel{Kind: uint8(i)}}, "count mine deck "+w+" ")
	}
	for i, w := range sel("+ - * < = and or") {
		wantExpr(t, api.Expr{Op: api.ExAdd + uint8(i), Args: []api.Expr{number(1), number(2)}}, "( "+w+" 1 2 ) ")
	}
	wantExpr(t, api.Expr{Op: api.ExNot, Args: []api.Expr{{Op: api.ExNot, Args: []api.Expr{{Op: api.ExAttack}}}}}, "( not ( not power ) ) ")
}

// P3.1: each step, with and without a sel.
func TestEachStep(t *testing.T) {
	of := api.Sel{Side: api.Any, Zone: api.Grave, Kind: 1 + api.Unit}
	for do, w := range map[uint8]string{api.StDraw: "draw", api.StMill: "mill", api.StDamage: "damage", api.StHeal: "heal", api.StToken: "token"} {
		wantText(t, stepOf(api.Step{Do: do, Side: api.Any, N: api.Expr{Op: api.ExLife}}), stepText(w+" any life mine"))
	}
	for do, w := range map[uint8]string{api.StDestroy: "destroy", api.StBanish: "banish", api.StBounce: "bounce", api.StRevive: "revive"} {
		wantText(t, stepOf(api.Step{Do: do}), stepText(w))
		wantText(t, stepOf(api.Step{Do: do, All: true}), stepText(w+" mine deck all"))
		wantText(t, stepOf(api.Step{Do: do, All: true, Sel: of}), stepText(w+" any grave unit"))
	}
	wantText(t, stepOf(api.Step{Do: api.StBoost}), stepText("boost 0"))
	wantText(t, stepOf(api.Step{Do: api.StBoost, N: number(7), All: true, Sel: of}), stepText("boost 7 any grave unit"))
	wantText(t, stepOf(api.Step{Do: api.StNegate}), stepText("negate"))
	two := api.Effect{Mode: api.Act, Steps: []api.Step{{Do: api.StNegate}, {Do: api.StBounce}}}
	wantText(t, effectOf(two), effectText("act : negate ; \nbounce ; \n"))
}

// P3.1: what is left out of an effect, and what is not: parts that are empty, each for itself.
func TestLeftOut(t *testing.T) {
	for want, e := range map[string]api.Effect{
		"play : \n":                            {},
		"play upon try mine : \n":              {Ev: api.EvTry},
		"play needs 0 : \n":                    {Cond: []api.Expr{{}}},
		"play needs 0 needs power : \n":        {Cond: []api.Expr{{}, {Op: api.ExAttack}}},
		"play pays 1 : \n":                     {Pay: 1},
		"play drops 1 : \n":                    {Discard: 1},
		"play spends : \n":                     {Tribute: true},
		"play picks 1 mine deck all : \n":      {Pick: 1},
		"play picks 0 self deck all : \n":      {Sel: api.Sel{Side: api.Self}},
		"play picks 0 mine hand all : \n":      {Sel: api.Sel{Zone: api.Hand}},
		"play picks 0 mine deck counter : \n":  {Sel: api.Sel{Kind: 1 + api.Counter}},
		"play picks 99999 any exile trap : \n": {Pick: 99999, Sel: api.Sel{Side: api.Any, Zone: api.Exile, Kind: 1 + api.Trap}},
		"must upon link any needs 2 pays 3 drops 4 spends picks 5 theirs back quick : negate ; \n": {
			Mode: api.Must, Ev: api.EvLink, Side: api.Any, Cond: []api.Expr{number(2)}, Pay: 3, Discard: 4, Tribute: true,
			Pick: 5, Sel: api.Sel{Side: api.Theirs, Zone: api.Back, Kind: 1 + api.Quick}, Steps: []api.Step{{Do: api.StNegate}},
		},
	} {
		wantText(t, effectOf(e), effectText(want))
	}
}

// P3.1: cards and effects stand in their order, each on lines of its own.
func TestOrder(t *testing.T) {
	unit := api.Card{Name: "unit", Level: 1, Attack: 2, Guard: 3, Effects: []api.Effect{{Mode: api.Act}, {Mode: api.Aura, Steps: []api.Step{{Do: api.StBoost}}}, {Mode: api.Act}}}
	trap := api.Card{Name: "語", Kind: api.Trap}
	unitText := "unit unit 1 2 3 { \nact : \naura : boost 0 ; \nact : \n} \n"
	wantText(t, []api.Card{unit, trap}, unitText+"trap 語 { \n} \n")
	wantText(t, []api.Card{trap, unit, trap}, "trap 語 { \n} \n"+unitText+"trap 語 { \n} \n")
}

// scribe makes a pool by lot, twice: as it is written, and as it may be told, too.
type scribe struct {
	lot        *rand.Rand
	text, told strings.Builder
}

func (s *scribe) loose(words string) {
	for _, w := range strings.Fields(words) {
		s.told.WriteString(w)
		s.told.WriteString([]string{" ", "\n", "\t\r ", "# é } :\n"}[s.lot.IntN(4)])
	}
}

// say says words of both texts.
func (s *scribe) say(words string) {
	s.loose(words)
	for _, w := range strings.Fields(words) {
		s.text.WriteString(w + " ")
	}
}

func (s *scribe) line(mark string) {
	s.say(mark)
	s.text.WriteString("\n")
}

func (s *scribe) oneOf(words string) string {
	l := strings.Fields(words)
	return l[s.lot.IntN(len(l))]
}

func (s *scribe) side() string { return s.oneOf("mine theirs any self") }

func (s *scribe) sel() string {
	return s.side() + " " + s.oneOf("deck hand row back grave exile") + " " + s.oneOf("all unit spell quick trap counter")
}

func (s *scribe) expr(deep int) string {
	what := s.lot.IntN(6)
	if deep == 1 {
		what %= 4
	}
	switch what {
	case 0:
		return s.oneOf("0 1 700 99999")
	case 1:
		return "life " + s.side()
	case 2:
		return "count " + s.sel()
	case 3:
		return "power"
	case 4:
		return "( not " + s.expr(deep-1) + " )"
	}
	return "( " + s.oneOf("+ - * < = and or") + " " + s.expr(deep-1) + " " + s.expr(deep-1) + " )"
}

func (s *scribe) step() {
	switch w := s.oneOf("draw mill damage heal token destroy banish bounce revive boost boost negate"); w {
	case "draw", "mill", "damage", "heal", "token":
		s.say(w + " " + s.side() + " " + s.expr(api.MaxDepth))
	case "negate":
		s.say(w)
	case "boost":
		w += " " + s.expr(api.MaxDepth)
		fallthrough
	default:
		if s.lot.IntN(2) == 0 {
			w += " " + s.sel()
		}
		s.say(w)
	}
	s.line(";")
}

// part says what an effect may have; of one that it has not, now and then what comes to the same, or nothing.
func (s *scribe) part(has, none string) {
	switch s.lot.IntN(3) {
	case 0:
		s.say(has)
	case 1:
		s.loose(none)
	}
}

func (s *scribe) effect() {
	s.say(s.oneOf("play act swift when if must aura"))
	s.part("upon "+s.oneOf("try summon attack destroy damage link standby end")+" "+s.side(), "")
	for range s.lot.IntN(4) {
		s.say("needs " + s.expr(api.MaxDepth))
	}
	s.part("pays "+s.oneOf("1 2000 99999"), "pays 0")
	s.part("drops "+s.oneOf("1 2 99999"), "drops 0")
	s.part("spends", "")
	s.part("picks "+s.oneOf("1 3 99999")+" "+s.sel(), "picks 0 mine deck all")
	steps := s.lot.IntN(4)
	if steps == 0 {
		s.line(":")
		return
	}
	s.say(":")
	for range steps {
		s.step()
	}
}

func (s *scribe) card() {
	w := s.oneOf("unit spell quick trap counter") + " " + s.oneOf("a unit é-1 語 needs")
	if strings.HasPrefix(w, "unit ") {
		w += " " + strings.Join([]string{s.oneOf("0 4 99999"), s.oneOf("0 1800"), s.oneOf("0 7")}, " ")
	}
	s.say(w)
	s.line("{")
	for range s.lot.IntN(api.MaxEffects + 1) {
		s.effect()
	}
	s.line("}")
}

// P3.1, P3.2: what is read is written as the chapter says, however it was told, and is read from there as the same.
func TestReadAndWritten(t *testing.T) {
	for seed := range uint64(2000) {
		s := &scribe{lot: rand.New(rand.NewPCG(seed, 3))}
		for range s.lot.IntN(5) {
			s.card()
		}
		l, f := parse.Pool(s.told.String())
		if f != (api.Fault{}) {
			t.Fatalf("Pool(%q) of parse = %v", s.told.String(), f)
		}
		wantText(t, l, s.text.String())
	}
}

// P3.1: expressions, too.
func TestExprsReadAndWritten(t *testing.T) {
	for seed := range uint64(3000) {
		s := &scribe{lot: rand.New(rand.NewPCG(seed, 4))}
		s.say(s.expr(api.MaxDepth))
		l, f := parse.Exprs(s.told.String())
		if f != (api.Fault{}) || len(l) != 1 {
			t.Fatalf("Exprs(%q) = %v, %v", s.told.String(), l, f)
		}
		wantExpr(t, l[0], s.text.String())
	}
}

// What was handed in stays as it is, and no answer hangs on another one.
func TestAnswersAreApart(t *testing.T) {
	a, b := read(t, pool), read(t, pool)
	want, _ := print.Pool(a)
	if !print.Same(a, b) || !print.May(a) || !print.Same(a, b) {
		t.Errorf("the cards were changed: %v", a)
	}
	a[0].Name, a[0].Effects[0].Cond[0].Op = "other", api.ExSame
	changed, e := print.Pool(a)
	if again, _ := print.Pool(b); again != want || e != api.OK || changed != strings.Replace(strings.Replace(want, "ogre", "other", 1), "<", "=", 1) {
		t.Errorf("Pool = %q, then %q; changed: %q, %v", want, again, changed, e)
	}
	x := api.Expr{Op: api.ExAdd, Args: append(make([]api.Expr, 0, 3), number(1), number(2))}
	wantExpr(t, x, "( + 1 2 ) ")
	if behind := x.Args[:3][2]; behind.Op != 0 || behind.N != 0 || behind.Args != nil || x.Args[0].N != 1 || x.Args[1].N != 2 {
		t.Errorf("the expression was changed: %v", x.Args[:3])
	}
}

// wide is an expression of so many numbers.
func wide(op uint8, count int) api.Expr {
	x := api.Expr{Op: op}
	for i := range count {
		x.Args = append(x.Args, number(i))
	}
	return x
}

// P3.1: an operator has as many expressions as it may have, no more and no less.
func TestHowManyArgs(t *testing.T) {
	for op := range 256 {
		for count := range 5 {
			x := wide(uint8(op), count)
			right := 2
			switch {
			case op < api.ExAdd:
				right = 0
			case op == api.ExNot:
				right = 1
			}
			if count != right || op > api.ExNot {
				wantNoExpr(t, x)
				wantNone(t, needs(x))
				wantNone(t, stepOf(api.Step{N: x}))
			} else if s, e := print.Expr(x); s == "" || e != api.OK {
				t.Errorf("Expr(%v) = %q, %v", x, s, e)
			}
		}
	}
}

// P3.1: what no expression is.
func TestNoExpr(t *testing.T) {
	for _, x := range []api.Expr{
		{N: -1}, {N: api.MaxNumber + 1}, {N: 1 << 62}, {N: -1 << 63}, {Side: 1}, {Sel: api.Sel{Side: 1}}, {Sel: api.Sel{Zone: 1}}, {Sel: api.Sel{Kind: 1}},
		{Op: api.ExLife, Side: 4}, {Op: api.ExLife, Side: 255}, {Op: api.ExLife, N: 1}, {Op: api.ExLife, Sel: api.Sel{Zone: 1}},
		{Op: api.ExCount, Side: 1}, {Op: api.ExCount, N: 1}, {Op: api.ExCount, Sel: api.Sel{Side: 4}}, {Op: api.ExCount, Sel: api.Sel{Zone: api.Limbo}}, {Op: api.ExCount, Sel: api.Sel{Zone: api.Nowhere}}, {Op: api.ExCount, Sel: api.Sel{Zone: 255}}, {Op: api.ExCount, Sel: api.Sel{Kind: 6}}, {Op: api.ExCount, Sel: api.Sel{Kind: 255}},
		{Op: api.ExAttack, N: 1}, {Op: api.ExAttack, Side: 1}, {Op: api.ExAttack, Sel: api.Sel{Kind: 1}},
		{Op: api.ExNot, N: 1, Args: []api.Expr{{}}}, {Op: api.ExNot, Side: 1, Args: []api.Expr{{}}}, {Op: api.ExNot, Sel: api.Sel{Side: 1}, Args: []api.Expr{{}}},
	} {
		wantNoExpr(t, x)
		wantNone(t, needs(x))
		wantNone(t, stepOf(api.Step{Do: api.StBoost, N: x}))
		wantNoExpr(t, api.Expr{Op: api.ExAdd, Args: []api.Expr{{}, x}})
		wantNoExpr(t, api.Expr{Op: api.ExNot, Args: []api.Expr{{Op: api.ExAdd, Args: []api.Expr{x, {}}}}})
	}
}

// P3.1: an expression is at most MaxDepth deep, on each way down.
func TestDepth(t *testing.T) {
	for deep := range 2 * api.MaxDepth {
		left, right, both := number(7), number(7), nested(deep, 2, 7)
		leftText, rightText := "7 ", "7 "
		for range deep {
			left = api.Expr{Op: api.ExSub, Args: []api.Expr{left, number(1)}}
			right = api.Expr{Op: api.ExSub, Args: []api.Expr{number(1), right}}
			leftText, rightText = "( - "+leftText+"1 ) ", "( - 1 "+rightText+") "
		}
		if deep >= api.MaxDepth {
			for _, x := range []api.Expr{left, right, both} {
				wantNoExpr(t, x)
				wantNone(t, needs(x))
				wantNone(t, stepOf(api.Step{N: x}))
			}
			continue
		}
		wantExpr(t, left, leftText)
		wantExpr(t, right, rightText)
		wantText(t, effectOf(api.Effect{Cond: []api.Expr{left, right}}), effectText("play needs "+leftText+"needs "+rightText+": \n"))
		if s, e := print.Expr(both); e != api.OK || strings.Count(s, "7") != 1<<deep {
			t.Errorf("Expr(%v) = %q, %v", both, s, e)
		}
	}
}

// P3.1: numbers to MaxNumber, each where it may stand.
func TestNumbers(t *testing.T) {
	for _, n := range []int{0, 1, 9, 10, 99998, api.MaxNumber} {
		s := strconv.Itoa(n)
		wantExpr(t, number(n), s+" ")
		wantText(t, []api.Card{{Name: "a", Level: n, Attack: n, Guard: n}}, "unit a "+s+" "+s+" "+s+" { \n} \n")
	}
}
