package check_test

import (
	"strconv"
	"strings"
	"testing"

	"joust/api"
	"joust/check"
	"joust/parse"
	"joust/print"
)

func read(t *testing.T, text string) []api.Card {
	t.Helper()
	l, f := parse.Pool(text)
	if f != (api.Fault{}) {
		t.Fatalf("Pool(%q) of parse = %v", text, f)
	}
	return l
}

func wantCard(t *testing.T, c api.Card, want api.Errno) {
	t.Helper()
	if e := check.Card(c); e != want {
		text, _ := print.Pool([]api.Card{c})
		t.Errorf("Card(%.40q, %q) = %v, not %v", c.Name, text, e, want)
	}
}

// wantText is wantCard of a text's card.
func wantText(t *testing.T, text string, want api.Errno) {
	t.Helper()
	wantCard(t, read(t, text)[0], want)
}

func wantPool(t *testing.T, l []api.Card, place int, want api.Errno) {
	t.Helper()
	if n, e := check.Pool(l); n != place || e != want {
		t.Errorf("Pool of %d cards = %d, %v; not %d, %v", len(l), n, e, place, want)
	}
}

// P4.1: the chapter's examples.
func TestExamples(t *testing.T) {
	for text, want := range map[string]api.Errno{
		"unit ogre 4 1800 0 { }":                      api.OK,
		"unit ogre 0 1 1 { }":                         api.ErrRule,
		"spell rain { play : damage theirs 500 ; }":   api.OK,
		"spell rain { }":                              api.ErrRule,
		"spell rain { play : destroy ; }":             api.ErrRule,
		"trap t { play upon link theirs : negate ; }": api.ErrRule,
	} {
		l := read(t, text)
		wantCard(t, l[0], want)
		wantPool(t, l, 0, want)
	}
}

// sound is a pool in which each part of the nine rules is kept at its edge.
const sound = `
unit none 2 0 0 { }
unit first 1 0 0 { act spends: aura: }
unit last 12 99999 99999 {
	act: swift spends: destroy self row all; boost 99999 self row unit;
	when upon summon self needs (< count any hand all 3) needs count self row trap: token any life any;
	aura: boost 5 any row all; boost 0 theirs row counter;
}
spell rain { play needs life theirs pays 99999 drops 99999 picks 3 any exile spell: damage theirs 500; heal any (+ life mine power); }
quick gust { play upon damage any picks 1 theirs grave trap: banish; bounce; revive; destroy any back trap; }
trap pit { play upon attack theirs picks 2 any row all: destroy; banish; bounce; boost (not count mine deck all); }
counter no { play upon link any: negate; draw mine 1; mill theirs 2; }
counter never { play upon try mine: negate; bounce mine back all; }
counter late { play: }`

// P4.1: what is kept at its edge, is kept; alone, and in a pool.
func TestSound(t *testing.T) {
	l := read(t, sound)
	for _, c := range l {
		wantCard(t, c, api.OK)
	}
	wantPool(t, l, 0, api.OK)
	wantPool(t, nil, 0, api.OK)
	wantPool(t, []api.Card{}, 0, api.OK)
}

// P4.1: each event, upon which each mode of a card of each kind is, and each side of it.
func TestUpon(t *testing.T) {
	card := map[string]string{"unit": "unit a 1 0 0 { ", "spell": "spell a { ", "quick": "quick a { ", "trap": "trap a { ", "counter": "counter a { "}
	events := strings.Fields("try summon attack destroy damage link standby end")
	for what, may := range map[string]string{
		"unit act": "", "unit swift": "", "unit aura": "", "spell play": "",
		"unit when": "summon attack destroy damage standby end", "unit if": "summon attack destroy damage standby end", "unit must": "summon attack destroy damage standby end",
		"quick play": "summon attack destroy damage standby end", "trap play": "summon attack destroy damage standby end", "counter play": "try summon attack destroy damage link standby end",
	} {
		kind, mode, _ := strings.Cut(what, " ")
		for _, ev := range events {
			for _, side := range strings.Fields("mine theirs any self") {
				want := api.ErrRule
				if strings.Contains(" "+may+" ", " "+ev+" ") && (mode != "play" || side != "self") {
					want = api.OK
				}
				text := card[kind] + mode + " upon " + ev + " " + side + ": }"
				wantText(t, text, want)
			}
		}
		bare, want := card[kind]+mode+": }", api.OK
		if kind == "unit" && may != "" {
			want = api.ErrRule
		}
		wantText(t, bare, want)
	}
}

// P4.1: each zone that a step may be about, whether it is its own or picked, and whoever's.
func TestZones(t *testing.T) {
	for do, may := range map[string]string{"destroy": "row back", "banish": "row back grave", "bounce": "row back grave", "revive": "grave", "boost 1": "row"} {
		for _, zone := range strings.Fields("deck hand row back grave exile") {
			for _, side := range strings.Fields("mine theirs any self") {
				want := api.ErrRule
				if strings.Contains(" "+may+" ", " "+zone+" ") && (side != "self" || zone == "row") {
					want = api.OK
				}
				sel := side + " " + zone + " all"
				for _, text := range []string{
					"trap a { play: " + do + " " + sel + "; }",
					"trap a { play picks 1 mine exile all: " + do + " " + sel + "; }",
					"trap a { play picks 1 " + sel + ": " + do + "; }",
					"trap a { play picks 1 " + sel + ": draw mine 1; " + do + "; }",
				} {
					wantText(t, text, want)
				}
			}
		}
	}
}

// P4.1: how many are picked, and of which zones, by an effect without a step that is about them.
func TestPicks(t *testing.T) {
	for _, zone := range strings.Fields("deck hand row back grave exile") {
		for n := range 6 {
			want := api.OK
			if n == 0 || n > api.MaxPicks || zone == "deck" || zone == "hand" {
				want = api.ErrRule
			}
			wantText(t, "trap a { play picks "+strconv.Itoa(n)+" any "+zone+" all: }", want)
		}
	}
	wantText(t, "trap a { play picks 99999 any row all: }", api.ErrRule)
	wantText(t, "trap a { play picks 0 mine deck all: }", api.OK)
}

// P4.1: each thing that an aura may not have, alone, and each deed that is none of its.
func TestAuras(t *testing.T) {
	for effect, want := range map[string]api.Errno{
		"aura:":                                  api.OK,
		"aura pays 0 drops 0:":                   api.OK,
		"aura: boost 5 any row all;":             api.OK,
		"aura: boost 0 self row unit;":           api.OK,
		"aura needs 1:":                          api.ErrRule,
		"aura needs power: boost 5 any row all;": api.ErrRule,
		"aura pays 1:":                           api.ErrRule,
		"aura drops 1:":                          api.ErrRule,
		"aura spends:":                           api.ErrRule,
		"aura picks 1 any row all:":              api.ErrRule,
		"aura picks 1 any row all: boost 5 any row all;":      api.ErrRule,
		"aura picks 0 any row all: boost 5 any row all;":      api.ErrRule,
		"aura picks 1 any row all: boost 5;":                  api.ErrRule,
		"aura: boost 5;":                                      api.ErrRule,
		"aura: boost 5 any back all;":                         api.ErrRule,
		"aura: boost power any row all;":                      api.ErrRule,
		"aura: boost life mine any row all;":                  api.ErrRule,
		"aura: boost count any row all any row all;":          api.ErrRule,
		"aura: boost (+ 1 2) any row all;":                    api.ErrRule,
		"aura: boost 5 any row all; destroy any row all;":     api.ErrRule,
		"aura: banish any row all;":                           api.ErrRule,
		"aura: bounce any row all; boost 5 any row all;":      api.ErrRule,
		"aura: revive any grave all;":                         api.ErrRule,
		"aura: draw mine 1;":                                  api.ErrRule,
		"aura: mill mine 1;":                                  api.ErrRule,
		"aura: damage mine 1;":                                api.ErrRule,
		"aura: heal mine 1;":                                  api.ErrRule,
		"aura: token mine 1;":                                 api.ErrRule,
		"aura: negate;":                                       api.ErrRule,
		"act needs power pays 1 drops 1 spends: heal mine 1;": api.OK,
	} {
		wantText(t, "unit a 1 0 0 { "+effect+" }", want)
		wantText(t, "unit a 1 0 0 { act: aura: "+effect+" swift: }", want)
	}
}

// P4.1: levels, from both sides.
func TestLevels(t *testing.T) {
	for _, level := range []int{0, 1, 2, 11, 12, 13, 99999} {
		want := api.OK
		if level < 1 || level > 12 {
			want = api.ErrRule
		}
		wantCard(t, api.Card{Name: "a", Level: level, Attack: api.MaxNumber, Guard: api.MaxNumber}, want)
	}
}

// P4.1: a Sel and a life, in whatever place an expression may stand.
func TestExprs(t *testing.T) {
	for text, want := range map[string]api.Errno{
		"0": api.OK, "99999": api.OK, "power": api.OK, "life mine": api.OK, "life theirs": api.OK, "life any": api.OK, "life self": api.ErrRule,
		"count any deck all": api.OK, "count any hand all": api.OK, "count any row unit": api.OK, "count any exile counter": api.OK, "count self row all": api.OK, "count self row trap": api.OK,
		"count any deck unit": api.ErrRule, "count mine deck counter": api.ErrRule, "count any hand unit": api.ErrRule, "count theirs hand spell": api.ErrRule,
		"count self deck all": api.ErrRule, "count self hand all": api.ErrRule, "count self back all": api.ErrRule, "count self grave unit": api.ErrRule, "count self exile all": api.ErrRule,
	} {
		around := []string{"X", "(not X)", "(+ X 1)", "(= 1 X)", "(and (or X X) power)", "(not (not (not (not (- 1 X)))))", "(* (+ 1 2) (- 3 (< X 4)))"}
		for _, a := range around {
			a = strings.ReplaceAll(a, "X", text)
			l, f := parse.Exprs(a)
			if f != (api.Fault{}) {
				t.Fatalf("Exprs(%q) = %v", a, f)
			}
			if e := check.Expr(l[0]); e != want {
				t.Errorf("Expr(%q) = %v, not %v", a, e, want)
			}
			for _, effect := range []string{"needs " + a + ":", "needs 1 needs " + a + ":", ": heal mine " + a + ";", ": draw mine 1; boost " + a + " any row all;"} {
				wantText(t, "trap a { play "+effect+" }", want)
				wantText(t, "unit a 1 0 0 { act: swift "+effect+" }", want)
			}
		}
	}
}

// P4.1: ErrArg of an expression that may not be written, though it is against a rule, too.
func TestNoExpr(t *testing.T) {
	life := api.Expr{Op: api.ExLife, Side: api.Self}
	deep := life
	for range api.MaxDepth {
		deep = api.Expr{Op: api.ExNot, Args: []api.Expr{deep}}
	}
	around := make([]api.Expr, 1)
	around[0] = api.Expr{Op: api.ExNot, Args: around}
	for _, x := range []api.Expr{
		{N: -1}, {N: api.MaxNumber + 1}, {Op: 12}, {Op: 255}, {Op: api.ExAdd, Args: []api.Expr{life}}, {Op: api.ExNot, Args: []api.Expr{life, life}}, {Op: api.ExLife, Side: 4},
		{Op: api.ExLife, Side: api.Self, N: 1}, {Op: api.ExCount, Sel: api.Sel{Side: api.Self, Zone: api.Limbo}}, {Op: api.ExCount, Sel: api.Sel{Kind: 6}}, deep, around[0],
	} {
		if e := check.Expr(x); e != api.ErrArg {
			t.Errorf("Expr = %v", e)
		}
		for _, effect := range []api.Effect{{Cond: []api.Expr{x}}, {Cond: []api.Expr{life, x}}, {Steps: []api.Step{{N: x}}}} {
			c := api.Card{Name: "a", Kind: api.Trap, Effects: []api.Effect{effect}}
			wantCard(t, c, api.ErrArg)
			wantPool(t, []api.Card{{Name: "b"}, {Name: "b"}, c}, 0, api.ErrArg)
		}
	}
}

// P4.1: ErrArg of a card that may not be written, though it is against a rule, too.
func TestNoCard(t *testing.T) {
	effect := func(e api.Effect) api.Card { return api.Card{Name: "a", Kind: api.Spell, Effects: []api.Effect{e}} }
	step := func(s api.Step) api.Card { return effect(api.Effect{Steps: []api.Step{s}}) }
	for _, c := range []api.Card{
		{}, {Level: 1}, {Name: "a b", Level: 1}, {Name: "a-", Level: 1}, {Name: "7", Level: 1}, {Name: strings.Repeat("a", api.MaxWord+1), Level: 1},
		{Name: "a", Kind: 5}, {Name: "a", Kind: 255}, {Name: "a", Level: -1}, {Name: "a", Level: 1, Attack: -1}, {Name: "a", Level: 1, Guard: api.MaxNumber + 1},
		{Name: "a", Kind: api.Spell, Level: 1, Effects: []api.Effect{{}}}, {Name: "a", Kind: api.Trap, Attack: 1, Effects: []api.Effect{{}}}, {Name: "a", Kind: api.Counter, Guard: 1, Effects: []api.Effect{{}}},
		{Name: "a", Level: 1, Effects: make([]api.Effect, api.MaxEffects+1)}, effect(api.Effect{Steps: make([]api.Step, api.MaxSteps+1)}), effect(api.Effect{Cond: make([]api.Expr, api.MaxSteps+1)}),
		effect(api.Effect{Mode: 7}), effect(api.Effect{Ev: 9}), effect(api.Effect{Side: api.Self}), effect(api.Effect{Pay: -1}), effect(api.Effect{Discard: -1}), effect(api.Effect{Pick: -1}), effect(api.Effect{Pick: api.MaxNumber + 1}), effect(api.Effect{Sel: api.Sel{Zone: api.Nowhere}}),
		step(api.Step{Do: 11}), step(api.Step{Side: 4}), step(api.Step{All: true}), step(api.Step{Sel: api.Sel{Kind: 1}}), step(api.Step{Do: api.StDestroy, Side: api.Self}), step(api.Step{Do: api.StBanish, N: api.Expr{N: 1}}), step(api.Step{Do: api.StNegate, All: true}),
	} {
		wantCard(t, c, api.ErrArg)
		wantPool(t, []api.Card{c}, 0, api.ErrArg)
		wantPool(t, []api.Card{{Name: "b", Level: 1}, {Name: "b", Level: 1}, {Name: "b"}, c}, 0, api.ErrArg)
	}
}

// P4.1: of the first card that is told twice or against a rule, its place; told twice is named first.
func TestPlaces(t *testing.T) {
	for cards, want := range map[string]struct {
		place int
		e     api.Errno
	}{
		"":          {0, api.OK},
		"a":         {0, api.OK},
		"a b c d":   {0, api.OK},
		"a A é é1":  {0, api.OK},
		"a!":        {0, api.ErrRule},
		"a b!":      {1, api.ErrRule},
		"a b! c!":   {1, api.ErrRule},
		"a! b! c!":  {0, api.ErrRule},
		"a a":       {1, api.ErrTwice},
		"a b b a":   {2, api.ErrTwice},
		"a b c d a": {4, api.ErrTwice},
		"a a a":     {1, api.ErrTwice},
		"a a!":      {1, api.ErrTwice},
		"a! a":      {0, api.ErrRule},
		"a b a c!":  {2, api.ErrTwice},
		"a b! a":    {1, api.ErrRule},
		"a b! b!":   {1, api.ErrRule},
		"a b c! c":  {2, api.ErrRule},
	} {
		for _, head := range []string{"unit NAME LEVEL 0 0 { }", "trap NAME { PLAY }"} {
			var text strings.Builder
			for _, name := range strings.Fields(cards) {
				name, wrong := strings.CutSuffix(name, "!")
				one := strings.NewReplacer("NAME", name, "LEVEL", "1", "PLAY", "play:")
				if wrong {
					one = strings.NewReplacer("NAME", name, "LEVEL", "0", "PLAY", "")
				}
				text.WriteString(one.Replace(head) + " ")
			}
			wantPool(t, read(t, text.String()), want.place, want.e)
		}
	}
	wantPool(t, read(t, "unit a 1 0 0 { } trap a { play: }"), 1, api.ErrTwice)
}

func many(t *testing.T, count int, effects string) []api.Card {
	t.Helper()
	var l []api.Card
	for i := range count {
		l = append(l, read(t, "unit a"+strconv.Itoa(i)+" 1 0 0 { "+effects+" }")...)
	}
	return l
}

// P4.1: pools that are as long as may be written, and longer, though each card may be alone.
func TestLongPools(t *testing.T) {
	l := many(t, api.MaxKinds+1, "")
	wantPool(t, l[:api.MaxKinds], 0, api.OK)
	wantPool(t, l, 0, api.ErrArg)
	l[63] = l[62]
	wantPool(t, l[:api.MaxKinds], 63, api.ErrTwice)
	l[63] = api.Card{Name: "b"}
	wantPool(t, l[:api.MaxKinds], 63, api.ErrRule)
	wide := "(and (and (and (and (and 1 1) (and 1 1)) 1) 1) 1)"
	l = many(t, api.MaxKinds, strings.Repeat("act "+strings.Repeat("needs "+wide+" ", 6)+": ", 4))
	for _, c := range l {
		wantCard(t, c, api.OK)
	}
	wantPool(t, l[:api.MaxKinds/4], 0, api.OK)
	wantPool(t, l, 0, api.ErrArg)
}

// What was handed in stays as it is, the room behind its end, too.
func TestHandedIn(t *testing.T) {
	room := append(read(t, sound), read(t, "unit more 1 1 1 { } spell wrong { }")...)
	want := append(read(t, sound), read(t, "unit more 1 1 1 { } spell wrong { }")...)
	for range 2 {
		wantPool(t, room[:len(room)-2], 0, api.OK)
		wantPool(t, room, len(room)-1, api.ErrRule)
		for _, c := range room[:len(room)-1] {
			wantCard(t, c, api.OK)
			for _, e := range c.Effects {
				for _, x := range e.Cond {
					if e := check.Expr(x); e != api.OK {
						t.Errorf("Expr(%v) = %v", x, e)
					}
				}
			}
		}
	}
	if !print.Same(room, want) {
		t.Errorf("the cards were changed: %v", room)
	}
}

// Each call ends, whatever stands within itself or in many places.
func TestCallsEnd(t *testing.T) {
	loop := make([]api.Expr, 2)
	for i := range loop {
		loop[i] = api.Expr{Op: api.ExAdd, Args: loop}
	}
	wide := api.Expr{Op: api.ExOr, Args: make([]api.Expr, 1<<16)}
	for range 1 << 10 {
		wide = api.Expr{Op: api.ExOr, Args: []api.Expr{wide, wide}}
	}
	for _, x := range []api.Expr{loop[0], wide} {
		if e := check.Expr(x); e != api.ErrArg {
			t.Errorf("Expr = %v", e)
		}
		effect := api.Effect{Cond: []api.Expr{x}, Steps: []api.Step{{N: x}}}
		c := api.Card{Name: "a", Kind: api.Trap, Effects: []api.Effect{effect}}
		if e := check.Card(c); e != api.ErrArg {
			t.Errorf("Card = %v", e)
		}
		l := make([]api.Card, 1<<16)
		for i := range l {
			l[i] = c
		}
		wantPool(t, l, 0, api.ErrArg)
	}
}
