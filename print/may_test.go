package print_test

import (
	"math/rand/v2"
	"reflect"
	"slices"
	"strings"
	"testing"

	"joust/api"
	"joust/parse"
	"joust/print"
	"joust/scan"
)

// tellable says thing by thing what parse may answer: a second reading of its table.
func tellable(l []api.Card) bool {
	return len(l) <= api.MaxKinds && !slices.ContainsFunc(l, func(c api.Card) bool {
		bare := c.Kind == api.Unit || c.Level == 0 && c.Attack == 0 && c.Guard == 0
		numbers := tellableNumber(c.Level) && tellableNumber(c.Attack) && tellableNumber(c.Guard)
		return !scan.Word(c.Name) || c.Kind > api.Counter || !bare || !numbers || len(c.Effects) > api.MaxEffects || slices.ContainsFunc(c.Effects, untellableEffect)
	})
}

func tellableNumber(n int) bool { return 0 <= n && n <= api.MaxNumber }

func tellableSel(s api.Sel) bool {
	return s.Side <= api.Self && s.Zone <= api.Exile && s.Kind <= 1+api.Counter
}

func untellableEffect(e api.Effect) bool {
	upon := e.Ev == api.EvNone && e.Side == 0 || e.Ev != api.EvNone && e.Ev <= api.EvEnd && e.Side <= api.Self
	numbers := tellableNumber(e.Pay) && tellableNumber(e.Discard) && tellableNumber(e.Pick)
	lists := len(e.Cond) <= api.MaxSteps && len(e.Steps) <= api.MaxSteps
	return e.Mode > api.Aura || !upon || !numbers || !lists || !tellableSel(e.Sel) || slices.ContainsFunc(e.Cond, untellableExpr) || slices.ContainsFunc(e.Steps, untellableStep)
}

func untellableStep(s api.Step) bool {
	amount := slices.Contains([]uint8{api.StDraw, api.StMill, api.StDamage, api.StHeal, api.StToken}, s.Do)
	of := slices.Contains([]uint8{api.StDestroy, api.StBanish, api.StBounce, api.StBoost, api.StRevive}, s.Do)
	switch {
	case s.Do > api.StNegate, !amount && s.Side != 0, s.Side > api.Self, !of && s.All, !s.All && s.Sel != (api.Sel{}), !tellableSel(s.Sel):
		return true
	case !amount && s.Do != api.StBoost && !reflect.DeepEqual(s.N, api.Expr{}):
		return true
	}
	return untellableExpr(s.N)
}

func untellableExpr(x api.Expr) bool { return depth(x) > api.MaxDepth }

// depth is beyond MaxDepth for what is no expression, too.
func depth(x api.Expr) int {
	args, n, side, sel := 0, 0, uint8(0), api.Sel{}
	switch {
	case x.Op == api.ExNumber && tellableNumber(x.N):
		n = x.N
	case x.Op == api.ExLife && x.Side <= api.Self:
		side = x.Side
	case x.Op == api.ExCount && tellableSel(x.Sel):
		sel = x.Sel
	case x.Op == api.ExNot:
		args = 1
	case api.ExAdd <= x.Op && x.Op < api.ExNot:
		args = 2
	}
	if x.Op > api.ExNot || len(x.Args) != args || x.N != n || x.Side != side || x.Sel != sel {
		return api.MaxDepth + 1
	}
	deepest := 0
	for _, a := range x.Args {
		deepest = max(deepest, depth(a))
	}
	return 1 + deepest
}

// wantMay holds May against the second reading, and the other two calls against May.
func wantMay(t *testing.T, l []api.Card, what string) (may bool) {
	t.Helper()
	s, e := print.Pool(l)
	may = tellable(l)
	if print.May(l) != may || (e == api.OK) != may || !may && (s != "" || e != api.ErrArg) {
		t.Errorf("%s: May(%v) = %v; Pool = %.80q, %v", what, l, !may, s, e)
		return may
	}
	if again, f := parse.Pool(s); may && (f != (api.Fault{}) || !print.Same(again, l)) {
		t.Errorf("%s: %q is read as %v, %v; not %v", what, s, again, f, l)
	}
	return may
}

const every = `
unit ogre 4 1800 7 {
	swift upon end self needs (< 1 life any) needs 7 pays 500 drops 1 spends picks 2 theirs back trap:
		destroy; boost (- 1 count any hand all) theirs row unit; draw theirs power; bounce mine grave all;
	aura:
}
trap pit { play: negate; }`

// P3.1: May says of cards that were changed in one thing whether that thing may be told.
func TestMayOfChanged(t *testing.T) {
	l, count := read(t, every), [2]int{}
	tell := func(path string) {
		if wantMay(t, l, "cards"+path) {
			count[1]++
		} else {
			count[0]++
		}
	}
	tell("")
	eachChange(reflect.ValueOf(&l).Elem(), "", tell)
	if count[0] < 1500 || count[1] < 250 {
		t.Errorf("%d pools that may be, %d that may not", count[1], count[0])
	}
}

// P3.1: and of cards that were changed in two things, of which one may make up for the other.
func TestMayOfTwiceChanged(t *testing.T) {
	lot := rand.New(rand.NewPCG(3, 1))
	l, may := read(t, every), 0
	eachChange(reflect.ValueOf(&l).Elem(), "", func(path string) {
		if lot.IntN(10) != 0 {
			return
		}
		eachChange(reflect.ValueOf(&l).Elem(), path+",", func(path string) {
			if lot.IntN(10) == 0 && wantMay(t, l, "cards"+path) {
				may++
			}
		})
	})
	if may < 400 {
		t.Errorf("%d pools that may be", may)
	}
}

// P3.1: a name is a word, as a whole, and nothing that would be read as more than that.
func TestNames(t *testing.T) {
	for _, w := range []string{"a", "é-1", "a--b", "unit", "trap", "not", strings.Repeat("語", api.MaxWord)} {
		wantText(t, []api.Card{{Name: w, Kind: api.Trap}}, "trap "+w+" { \n} \n")
		wantText(t, []api.Card{{Name: w}}, "unit "+w+" 0 0 0 { \n} \n")
	}
	for _, w := range []string{"", " ", "a ", " a", "a b", "a\n", "a-", "-", "1", "1a", "a.", "{", "a{", "a#", "#", "a # b", "a\xff", "\xff", "\ufffd", "a { } trap b", "a { } #", "a 1 2 3 { } unit b", strings.Repeat("語", api.MaxWord+1), strings.Repeat("a", api.MaxText), strings.Repeat("a", 1<<24)} {
		wantNone(t, []api.Card{{Name: w}})
		wantNone(t, []api.Card{{Name: w, Kind: api.Trap}})
		wantNone(t, []api.Card{{Name: "a"}, {Name: w, Kind: api.Counter}, {Name: "b"}})
	}
}

func times[T any](count int, one T) []T { return slices.Repeat([]T{one}, count) }

// P3.1: as many as may be read, no more.
func TestHowMany(t *testing.T) {
	trap := api.Card{Name: "a", Kind: api.Trap}
	wantText(t, times(api.MaxKinds, trap), strings.Repeat("trap a { \n} \n", api.MaxKinds))
	wantNone(t, times(api.MaxKinds+1, trap))
	full := func(count int) []api.Card {
		return []api.Card{{Name: "a", Kind: api.Spell, Effects: times(count, api.Effect{Mode: api.Act})}}
	}
	wantText(t, full(api.MaxEffects), effectText(strings.Repeat("act : \n", api.MaxEffects)))
	wantNone(t, full(api.MaxEffects+1))
	needs := func(count int) []api.Card { return effectOf(api.Effect{Cond: times(count, number(1))}) }
	wantText(t, needs(api.MaxSteps), effectText("play "+strings.Repeat("needs 1 ", api.MaxSteps)+": \n"))
	wantNone(t, needs(api.MaxSteps+1))
	steps := func(count int) []api.Card {
		return effectOf(api.Effect{Steps: times(count, api.Step{Do: api.StNegate})})
	}
	wantText(t, steps(api.MaxSteps), effectText("play : "+strings.Repeat("negate ; \n", api.MaxSteps)))
	wantNone(t, steps(api.MaxSteps+1))
}

// longPool is a pool whose text would have that many bytes: names take what the effects leave.
func longPool(t *testing.T, size int) []api.Card {
	t.Helper()
	long := api.Effect{Cond: times(api.MaxSteps, nested(5, 2, 1))}
	text, e := print.Pool(effectOf(long))
	short, _ := print.Pool(effectOf(api.Effect{}))
	empty, _ := print.Pool([]api.Card{{Name: "a"}})
	if e != api.OK || text == "" {
		t.Fatalf("Pool = %q, %v", text, e)
	}
	l := make([]api.Card, api.MaxKinds)
	size -= len(empty) * len(l)
	effect := len(text) - len(short) + len("play : \n")
	for i := range l {
		l[i].Name = "a"
		for range api.MaxEffects {
			if size >= effect {
				l[i].Effects = append(l[i].Effects, long)
				size -= effect
			}
		}
		more := min(size, api.MaxWord-1)
		if size < effect {
			l[i].Name += strings.Repeat("b", more)
			size -= more
		}
	}
	if size != 0 {
		t.Fatalf("%d bytes are left", size)
	}
	return l
}

// P3.1: a text has at most MaxText bytes.
func TestLongTexts(t *testing.T) {
	for _, less := range []int{0, 1, 2, 3, 4, 5} {
		l := longPool(t, api.MaxText-less)
		s, e := print.Pool(l)
		if len(s) != api.MaxText-less || e != api.OK || !print.May(l) {
			t.Errorf("Pool of %d less than MaxText = %d bytes, %v", less, len(s), e)
		}
		if again, f := parse.Pool(s); f != (api.Fault{}) || !print.Same(again, l) {
			t.Errorf("a long text is read as %d cards, %v", len(again), f)
		}
	}
	for _, more := range []int{1, 2, 3, 4, 5, 1000} {
		l := longPool(t, api.MaxText+more)
		if !tellable(l) {
			t.Fatalf("the pool may not be for another reason")
		}
		if s, e := print.Pool(l); s != "" || e != api.ErrArg || print.May(l) {
			t.Errorf("Pool of %d more than MaxText = %d bytes, %v", more, len(s), e)
		}
	}
}

// Whatever is handed in, each call ends: what is deep, what stands in many places, what stands within itself.
func TestCallsEnd(t *testing.T) {
	loop := make([]api.Expr, 2)
	for i := range loop {
		loop[i] = api.Expr{Op: api.ExAdd, Args: loop}
	}
	around := make([]api.Expr, 1)
	around[0].Args = around
	for _, x := range []api.Expr{nested(1<<17, 1, 1), nested(1<<10, 2, 1), nested(1<<10, 1<<10, 1), wide(api.ExAnd, 1<<17), loop[0], around[0]} {
		wantNoExpr(t, x)
		for _, l := range [][]api.Card{needs(x), gives(x), stepOf(api.Step{Do: api.StBoost, N: x}), stepOf(api.Step{N: x})} {
			if s, e := print.Pool(l); s != "" || e != api.ErrArg || print.May(l) {
				t.Errorf("Pool = %.80q, %v", s, e)
			}
		}
	}
	effect := api.Effect{Cond: times(1<<12, nested(5, 2, 1)), Steps: times(1<<12, api.Step{N: nested(5, 2, 1)})}
	card := api.Card{Name: "a", Effects: times(1<<12, effect)}
	if s, e := print.Pool(times(1<<12, card)); s != "" || e != api.ErrArg {
		t.Errorf("Pool = %.80q, %v", s, e)
	}
}
