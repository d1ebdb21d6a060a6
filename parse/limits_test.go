package parse_test

import (
	"strings"
	"testing"

	"joust/api"
	"joust/parse"
)

// limited is a list within a text: what stands ahead of it, one of it and its first token, what stands behind it, and how many there may be.
type limited struct {
	ahead, one, first, behind string
	most                      int
}

func (l limited) full() string { return l.ahead + strings.Repeat(l.one, l.most) }

func poolLists() []limited {
	return []limited{
		{"", "trap a { } ", "trap", "", api.MaxKinds},
		{"# é\n", "unit a 1 1 1 { act: }\n", "unit", "", api.MaxKinds},
		{"trap b { }\ntrap a {\n", "act upon end any: negate; ", "act", "} trap b { }", api.MaxEffects},
		{"trap a { act: act:\n", "negate; ", "negate", "act: }", api.MaxSteps},
		{"trap a { act:\n", "boost (+ 1 1) mine row all; ", "boost", "}", api.MaxSteps},
		{"trap a { act needs 1: act\n", "needs (not 0) ", "needs", ": act needs 1: }", api.MaxSteps},
	}
}

func spotBehind(text string) api.Spot {
	lines := strings.Split(text, "\n")
	return api.Spot{Line: len(lines), Col: 1 + len([]rune(lines[len(lines)-1]))}
}

// P2.1: as many as may be; one more is a fault where it begins, whatever comes behind its first token.
func TestHowMany(t *testing.T) {
	for _, l := range poolLists() {
		if _, f := parse.Pool(l.full() + l.behind); f != (api.Fault{}) {
			t.Errorf("Pool(%.60q..) = %v", l.full(), f)
		}
		limit := api.Fault{E: api.ErrLimit, At: spotBehind(l.full())}
		for _, more := range []string{l.one + l.behind, l.one + l.one, l.first + " 1 1 1 1", l.first + " }}}", l.first} {
			wantPoolFault(t, l.full()+more, limit)
		}
		wrong := api.Fault{E: api.ErrWord, At: limit.At}
		for _, more := range []string{"wrong " + l.behind, "7", ")", "self", "+"} {
			wantPoolFault(t, l.full()+more, wrong)
		}
	}
}

// P2.1: what is wrong ahead of the one that is too many comes first.
func TestWrongAheadOfTooMany(t *testing.T) {
	full := strings.Repeat("trap a { } ", api.MaxKinds-1)
	wantPoolFault(t, full+"trap a } trap a { }", fault(api.ErrWord, 1, len(full)+8))
	wantPoolFault(t, "trap a { act: "+strings.Repeat("negate; ", api.MaxSteps-1)+"negate negate; negate; }", fault(api.ErrWord, 1, 15+8*api.MaxSteps-1))
	wantExprsFault(t, strings.Repeat("1 ", api.MaxSteps-1)+"(not) 1", fault(api.ErrWord, 1, 2*api.MaxSteps+3))
}

// P2.1: each list is counted for itself.
func TestCountedApart(t *testing.T) {
	effect := "act " + strings.Repeat("needs (not 1) ", api.MaxSteps) + ": " + strings.Repeat("negate; ", api.MaxSteps)
	card := "trap a { " + strings.Repeat(effect, api.MaxEffects) + "} "
	l, f := parse.Pool(strings.Repeat(card, api.MaxKinds))
	if len(l) != api.MaxKinds || f != (api.Fault{}) {
		t.Fatalf("Pool = %d, %v", len(l), f)
	}
	for _, c := range l {
		if len(c.Effects) != api.MaxEffects {
			t.Fatalf("Pool = %v", c)
		}
		for _, e := range c.Effects {
			if len(e.Cond) != api.MaxSteps || len(e.Steps) != api.MaxSteps {
				t.Fatalf("Pool = %v", e)
			}
		}
	}
}

// P2.1: at most MaxSteps expressions, one behind the other.
func TestHowManyExprs(t *testing.T) {
	for one, first := range map[string]string{"1 ": "7", "power ": "power", "life any ": "life", "count any row all ": "count", "(not 1) ": "("} {
		full := strings.Repeat(one, api.MaxSteps)
		if l, f := parse.Exprs(full); len(l) != api.MaxSteps || f != (api.Fault{}) {
			t.Errorf("Exprs(%q) = %v, %v", full, l, f)
		}
		for _, more := range []string{one, one + one, first, first + " }", first + " wrong"} {
			wantExprsFault(t, full+more, fault(api.ErrLimit, 1, len(full)+1))
		}
		for _, more := range []string{"wrong", ")", "}", "unit", "+", "not"} {
			wantExprsFault(t, full+more, fault(api.ErrWord, 1, len(full)+1))
		}
	}
}

// within tells an expression within others, as many as count: each head opens one of them.
func within(head string, count int, inside string) string {
	return strings.Repeat(head, count) + inside + strings.Repeat(")", count)
}

func depth(x api.Expr) int {
	deepest := 0
	for _, y := range x.Args {
		deepest = max(deepest, depth(y))
	}
	return 1 + deepest
}

// P2.1: an expression may be MaxDepth deep.
func TestDeepest(t *testing.T) {
	const open = api.MaxDepth - 1
	nots := within("(not ", open-1, "1")
	for _, text := range []string{
		within("(not ", open, "1"), within("(+ 1 ", open, "power"), within("(- life any ", open, "count any row all"),
		within("(and (or 0 0) ", open-1, "(* 1 1)"), "(< " + nots + nots + ")", "(= 1 " + nots + ")",
	} {
		l, f := parse.Exprs(text + text)
		if len(l) != 2 || f != (api.Fault{}) || depth(l[0]) != api.MaxDepth || depth(l[1]) != api.MaxDepth {
			t.Errorf("Exprs(%q) = %v, %v", text, l, f)
		}
		pool := "trap a { act needs " + text + " needs " + text + ": boost " + text + "; draw mine " + text + "; }"
		if l, f := parse.Pool(pool); len(l) != 1 || f != (api.Fault{}) {
			t.Errorf("Pool(%q) = %v, %v", pool, l, f)
		}
	}
}

// P2.1: the fault is at the parenthesis with which an expression is deeper than that, whatever comes behind it.
func TestTooDeep(t *testing.T) {
	const open = api.MaxDepth - 1
	nots := within("(not ", open-1, "1")
	for _, ahead := range []string{
		strings.Repeat("(not ", open), strings.Repeat("(+ 1 ", open), "1 (< " + nots + strings.Repeat(" (not ", open-1), strings.Repeat("(=", open) + "1",
	} {
		for _, more := range []string{"(not 1" + strings.Repeat(")", open+1), "(", "()", "((((", "(1", "(not (not 1"} {
			wantExprsFault(t, ahead+more, fault(api.ErrLimit, 1, len(ahead)+1))
			for _, head := range []string{"trap a { act needs ", "unit a 1 1 1 { when: boost ", "trap a { act: draw any "} {
				if strings.HasPrefix(ahead, "1") {
					continue
				}
				wantPoolFault(t, head+ahead+more, fault(api.ErrLimit, 1, len(head+ahead)+1))
			}
		}
		for _, more := range []string{")", "wrong", "{", ""} {
			if more == "" || !strings.HasSuffix(ahead, "1") {
				wantExprsFault(t, ahead+more, fault(api.ErrWord, 1, len(ahead+more)+1-len(more)))
			}
		}
	}
}

// P2.1: a text that opens as much as a text can is told from its left.
func TestLongTexts(t *testing.T) {
	wantExprsFault(t, strings.Repeat("(", api.MaxText), fault(api.ErrWord, 1, 2))
	wantExprsFault(t, strings.Repeat("(+", api.MaxText/2), fault(api.ErrLimit, 1, 2*api.MaxDepth-1))
	wantPoolFault(t, strings.Repeat("{", api.MaxText), fault(api.ErrWord, 1, 1))
	wantPoolFault(t, "trap a {"+strings.Repeat("act:", api.MaxText/4-2), fault(api.ErrLimit, 1, 9+4*api.MaxEffects))
	wantPoolFault(t, strings.Repeat("\n", api.MaxText-1)+"x", fault(api.ErrWord, api.MaxText, 1))
}
