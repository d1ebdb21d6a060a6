package parse_test

import (
	"reflect"
	"strings"
	"testing"

	"joust/api"
	"joust/parse"
)

func fault(e api.Errno, line, col int) api.Fault {
	return api.Fault{E: e, At: api.Spot{Line: line, Col: col}}
}

func wantPool(t *testing.T, text string, want []api.Card) {
	t.Helper()
	if got, f := parse.Pool(text); f != (api.Fault{}) || !reflect.DeepEqual(got, want) {
		t.Errorf("Pool(%q) = %v, %v; not %v", text, got, f, want)
	}
}

func wantExprs(t *testing.T, text string, want ...api.Expr) {
	t.Helper()
	if got, f := parse.Exprs(text); f != (api.Fault{}) || !reflect.DeepEqual(got, want) {
		t.Errorf("Exprs(%q) = %v, %v; not %v", text, got, f, want)
	}
}

func wantPoolFault(t *testing.T, text string, want api.Fault) {
	t.Helper()
	if got, f := parse.Pool(text); got != nil || f != want {
		t.Errorf("Pool(%q) = %v, %v; not %v", text, got, f, want)
	}
}

func wantExprsFault(t *testing.T, text string, want api.Fault) {
	t.Helper()
	if got, f := parse.Exprs(text); got != nil || f != want {
		t.Errorf("Exprs(%q) = %v, %v; not %v", text, got, f, want)
	}
}

func number(n int) api.Expr { return api.Expr{N: n} }

func step(s api.Step) []api.Card {
	return []api.Card{{Name: "a", Kind: api.Spell, Effects: []api.Effect{{Steps: []api.Step{s}}}}}
}

// P2.1: the chapter's examples.
func TestExamples(t *testing.T) {
	wantExprs(t, "3 life mine (+ 1 power)",
		number(3), api.Expr{Op: api.ExLife}, api.Expr{Op: api.ExAdd, Args: []api.Expr{number(1), {Op: api.ExAttack}}})
	wantExprsFault(t, "(not)", fault(api.ErrWord, 1, 5))
	wantExprsFault(t, "()", fault(api.ErrWord, 1, 2))
	wantExprs(t, "count mine row unit", api.Expr{Op: api.ExCount, Sel: api.Sel{Zone: api.Row, Kind: 1}})
	wantPool(t, "unit ogre 4 1800 0 { }", []api.Card{{Name: "ogre", Level: 4, Attack: 1800}})
	wantPool(t, "spell rain { play: damage theirs 500; }", []api.Card{{Name: "rain", Kind: api.Spell, Effects: []api.Effect{
		{Mode: api.Play, Steps: []api.Step{{Do: api.StDamage, Side: api.Theirs, N: number(500)}}},
	}}})
	wantPoolFault(t, "unit 3", fault(api.ErrWord, 1, 6))
}

// P2.1: each word, and the number that it comes to.
func TestEachWord(t *testing.T) {
	for i, w := range []string{"spell", "quick", "trap", "counter"} {
		wantPool(t, w+" a { }", []api.Card{{Name: "a", Kind: uint8(api.Spell + i)}})
	}
	for i, w := range []string{"play", "act", "swift", "when", "if", "must", "aura"} {
		wantPool(t, "spell a { "+w+": }", []api.Card{{Name: "a", Kind: api.Spell, Effects: []api.Effect{{Mode: uint8(api.Play + i)}}}})
	}
	for i, w := range []string{"try", "summon", "attack", "destroy", "damage", "link", "standby", "end"} {
		wantPool(t, "spell a { play upon "+w+" any: }", []api.Card{{Name: "a", Kind: api.Spell, Effects: []api.Effect{{Ev: uint8(api.EvTry + i), Side: api.Any}}}})
	}
	for i, w := range []string{"mine", "theirs", "any", "self"} {
		side := uint8(api.Mine + i)
		wantExprs(t, "life "+w, api.Expr{Op: api.ExLife, Side: side})
		wantPool(t, "spell a { play upon end "+w+": }", []api.Card{{Name: "a", Kind: api.Spell, Effects: []api.Effect{{Ev: api.EvEnd, Side: side}}}})
		wantPool(t, "spell a { play: heal "+w+" 0; }", step(api.Step{Do: api.StHeal, Side: side}))
	}
	for i, zone := range []string{"deck", "hand", "row", "back", "grave", "exile"} {
		for j, kind := range []string{"all", "unit", "spell", "quick", "trap", "counter"} {
			sel := api.Sel{Side: api.Self, Zone: uint8(api.Deck + i), Kind: uint8(j)}
			wantExprs(t, "count self "+zone+" "+kind, api.Expr{Op: api.ExCount, Sel: sel})
		}
	}
	for i, w := range []string{"+", "-", "*", "<", "=", "and", "or"} {
		wantExprs(t, "("+w+" 1 2)", api.Expr{Op: uint8(api.ExAdd + i), Args: []api.Expr{number(1), number(2)}})
	}
	wantExprs(t, "(not power)", api.Expr{Op: api.ExNot, Args: []api.Expr{{Op: api.ExAttack}}})
}

// P2.1: each step, with and without what may stand behind it.
func TestEachStep(t *testing.T) {
	sum := api.Expr{Op: api.ExSub, Args: []api.Expr{{Op: api.ExAttack}, number(9)}}
	for w, do := range map[string]uint8{"draw": api.StDraw, "mill": api.StMill, "damage": api.StDamage, "heal": api.StHeal, "token": api.StToken} {
		wantPool(t, "spell a { play: "+w+" any (- power 9); }", step(api.Step{Do: do, Side: api.Any, N: sum}))
		wantPoolFault(t, "spell a { play: "+w+"; }", fault(api.ErrWord, 1, 17+len(w)))
		wantPoolFault(t, "spell a { play: "+w+" 1; }", fault(api.ErrWord, 1, 18+len(w)))
		wantPoolFault(t, "spell a { play: "+w+" any; }", fault(api.ErrWord, 1, 21+len(w)))
		wantPoolFault(t, "spell a { play: "+w+" any row all; }", fault(api.ErrWord, 1, 22+len(w)))
	}
	sel := api.Sel{Side: api.Theirs, Zone: api.Grave, Kind: 1 + api.Trap}
	for w, do := range map[string]uint8{"destroy": api.StDestroy, "banish": api.StBanish, "bounce": api.StBounce, "revive": api.StRevive} {
		wantPool(t, "spell a { play: "+w+"; }", step(api.Step{Do: do}))
		wantPool(t, "spell a { play: "+w+" theirs grave trap; }", step(api.Step{Do: do, All: true, Sel: sel}))
		wantPool(t, "spell a { play: "+w+" mine deck all; }", step(api.Step{Do: do, All: true}))
		wantPoolFault(t, "spell a { play: "+w+" 1; }", fault(api.ErrWord, 1, 18+len(w)))
		wantPoolFault(t, "spell a { play: "+w+" }", fault(api.ErrWord, 1, 18+len(w)))
	}
	wantPool(t, "spell a { play: boost (- power 9); }", step(api.Step{Do: api.StBoost, N: sum}))
	wantPool(t, "spell a { play: boost 7 theirs grave trap; }", step(api.Step{Do: api.StBoost, N: number(7), All: true, Sel: sel}))
	wantPool(t, "spell a { play: boost life self self row all; }", step(api.Step{Do: api.StBoost, N: api.Expr{Op: api.ExLife, Side: api.Self}, All: true, Sel: api.Sel{Side: api.Self, Zone: api.Row}}))
	wantPool(t, "spell a { play: negate; }", step(api.Step{Do: api.StNegate}))
	wantPoolFault(t, "spell a { play: boost; }", fault(api.ErrWord, 1, 22))
	wantPoolFault(t, "spell a { play: negate 1; }", fault(api.ErrWord, 1, 24))
	wantPoolFault(t, "spell a { play: negate mine row all; }", fault(api.ErrWord, 1, 24))
}

// P2.1: what stands ahead of the steps may be left out, but stands in its order.
func TestHeads(t *testing.T) {
	parts := []string{"upon link theirs", "needs 1 needs (not 0)", "pays 99999", "drops 2", "spends", "picks 0 any exile counter"}
	for set := range 1 << len(parts) {
		var e api.Effect
		fill := []func(){
			func() { e.Ev, e.Side = api.EvLink, api.Theirs },
			func() { e.Cond = []api.Expr{number(1), {Op: api.ExNot, Args: []api.Expr{number(0)}}} },
			func() { e.Pay = 99999 },
			func() { e.Discard = 2 },
			func() { e.Tribute = true },
			func() { e.Sel = api.Sel{Side: api.Any, Zone: api.Exile, Kind: 1 + api.Counter} },
		}
		e.Mode = api.Swift
		text := "unit a 1 2 3 { swift "
		for i, p := range parts {
			if set>>i&1 == 1 {
				text += p + " "
				fill[i]()
			}
		}
		wantPool(t, text+": }", []api.Card{{Name: "a", Level: 1, Attack: 2, Guard: 3, Effects: []api.Effect{e}}})
	}
	for i, p := range parts {
		for j, q := range parts[:i+1] {
			if i == j && strings.HasPrefix(p, "needs") {
				continue
			}
			wantPoolFault(t, "trap a { act "+p+" "+q+": }", fault(api.ErrWord, 1, 15+len(p)))
		}
		word, _, _ := strings.Cut(p, " ")
		if word != "spends" {
			wantPoolFault(t, "trap a { act "+word+": }", fault(api.ErrWord, 1, 14+len(word)))
		}
	}
}

// P2.1: a name may be any word, and no more than a word.
func TestNames(t *testing.T) {
	for _, w := range []string{"unit", "play", "upon", "é-1", "all", "語", strings.Repeat("w", api.MaxWord)} {
		wantPool(t, "unit "+w+" 0 99999 1 { } trap "+w+" { }", []api.Card{{Name: w, Attack: 99999, Guard: 1}, {Name: w, Kind: api.Trap}})
	}
	for _, w := range []string{"", "7", "{", "-"} {
		wantPoolFault(t, "trap "+w, fault(api.ErrWord, 1, 6))
		wantPoolFault(t, "unit "+w, fault(api.ErrWord, 1, 6))
	}
}

// P2.1: texts of nothing, and what lies between tokens.
func TestBetweenTokens(t *testing.T) {
	for _, text := range []string{"", " \t\r\n", "# unit"} {
		wantPool(t, text, nil)
		wantExprs(t, text)
	}
	wantPool(t, "trap#\na\r{\tplay:negate;}#", []api.Card{{Name: "a", Kind: api.Trap, Effects: []api.Effect{{Steps: []api.Step{{Do: api.StNegate}}}}}})
	wantExprs(t, "1(+2 3)4", number(1), api.Expr{Op: api.ExAdd, Args: []api.Expr{number(2), number(3)}}, number(4))
	wantPoolFault(t, "# unit\n unit é\n\t3 4 { }", fault(api.ErrWord, 3, 6))
	wantPoolFault(t, "trap a {\n\n", fault(api.ErrWord, 3, 1))
	wantExprsFault(t, "1\n é", fault(api.ErrWord, 2, 2))
}

// P2.1: scan's fault comes first, wherever it is.
func TestScanFaultFirst(t *testing.T) {
	for text, want := range map[string]api.Fault{
		"trap 3\n!":                        fault(api.ErrRune, 2, 1),
		"trap 3 # \xff":                    fault(api.ErrRune, 1, 10),
		"x 007":                            fault(api.ErrWord, 1, 3),
		"x 100000":                         fault(api.ErrLimit, 1, 3),
		"x " + strings.Repeat("y", 25):     fault(api.ErrLimit, 1, 3),
		strings.Repeat("}", api.MaxText):   fault(api.ErrWord, 1, 1),
		strings.Repeat(" ", api.MaxText+1): fault(api.ErrLimit, 1, 1),
		strings.Repeat("1 ", 7) + "!":      fault(api.ErrRune, 1, 15),
	} {
		wantPoolFault(t, text, want)
		wantExprsFault(t, text, want)
	}
}

// P2.1: a pool is no list of expressions, nor the other way round.
func TestWrongCall(t *testing.T) {
	wantPoolFault(t, "1", fault(api.ErrWord, 1, 1))
	wantPoolFault(t, "trap a { } power", fault(api.ErrWord, 1, 12))
	wantExprsFault(t, "unit a 1 1 1 { }", fault(api.ErrWord, 1, 1))
	wantExprsFault(t, "1 trap", fault(api.ErrWord, 1, 3))
	wantExprsFault(t, "1)", fault(api.ErrWord, 1, 2))
	wantExprsFault(t, "1;", fault(api.ErrWord, 1, 2))
	wantExprsFault(t, "-1", fault(api.ErrWord, 1, 1))
}

// P2.1: no two answers, and no two lists of one, share anything.
func TestAnswersAreApart(t *testing.T) {
	const text = "unit a 1 1 1 { act needs (+ 1 2) needs (+ 1 2): boost (+ 1 2); boost (+ 1 2); act: } trap b { }"
	read := func() []api.Card {
		l, f := parse.Pool(text)
		if f != (api.Fault{}) {
			t.Fatalf("Pool = %v", f)
		}
		return l
	}
	l, other, want := read(), read(), read()
	e := &l[0].Effects[0]
	e.Cond[0].Args[0].N, e.Steps[0].N.Args[0].N = 7, 8
	_ = append(l, api.Card{})
	_ = append(e.Cond, number(9))
	_ = append(e.Cond[0].Args, number(9))
	_ = append(e.Steps, api.Step{})
	_ = append(l[0].Effects, api.Effect{})
	if !reflect.DeepEqual(other, want) {
		t.Errorf("another answer was changed: %v", other)
	}
	e.Cond[0].Args[0].N, e.Steps[0].N.Args[0].N = 1, 1
	if !reflect.DeepEqual(l, want) {
		t.Errorf("more of the answer was changed: %v", l)
	}
	a, _ := parse.Exprs("(+ 1 2) (+ 1 2)")
	b, _ := parse.Exprs("(+ 1 2) (+ 1 2)")
	a[0].Args[0].N = 7
	if a[1].Args[0].N != 1 || b[0].Args[0].N != 1 {
		t.Errorf("Exprs = %v, then %v", a, b)
	}
}
