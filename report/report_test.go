package report_test

import (
	"reflect"
	"slices"
	"strconv"
	"strings"
	"testing"

	"joust/api"
	"joust/decks"
	"joust/duel"
	"joust/parse"
	"joust/report"
)

// pool is kinds that may be played.
const pool = `
unit ogre 4 1800 1000 { }
unit imp 3 1000 1900 { } # what fills decks
unit echo 2 300 300 { if upon destroy self : draw mine 1 ; }
unit late 2 300 300 { when upon destroy self : draw mine 1 ; }
unit ghost 2 300 300 { must upon destroy self : damage theirs 100 ; }
unit bird 1 100 100 { must upon summon self : destroy self row all ; must upon destroy self : revive mine grave unit ; }
spell rain { play : damage theirs 500 ; }
spell fell { play : damage theirs 8000 ; }
spell doom { play : damage any 8000 ; }
spell book { play : draw mine 3 ; }
spell blast { play : destroy any row all ; }
spell slow { play : destroy any row all ; heal mine 100 ; }
spell kill { play picks 1 theirs row unit : destroy ; }
quick fog { play : heal mine 300 ; }
quick save { play picks 1 mine row unit : bounce ; }
trap gale { play upon attack theirs picks 1 theirs row unit : bounce ; }
counter no { play upon link theirs : negate ; }
counter bar { play upon try theirs : negate ; }
`

// plain is decks of 5 of these kinds.
const plain = "deck { 3 ogre 2 imp } deck { 2 imp 3 ogre }"

// ofCards is a text of so many of a thing, a line each.
func ofCards(n int, one func(i int) string) string {
	var text strings.Builder
	for i := range n {
		text.WriteString(one(i) + "\n")
	}
	return text.String()
}

func spell(i int) string { return "spell s" + strconv.Itoa(i) + " { play : draw mine 1 ; }" }

// dense is a pool that is read, but too long as it is written.
func dense() string {
	x := "1"
	for range api.MaxDepth - 1 {
		x = "(+" + x + " " + x + ")"
	}
	effect := "act" + strings.Repeat(" needs"+x, api.MaxSteps) + ":draw mine 1;"
	return ofCards(16, func(i int) string {
		return "unit u" + strconv.Itoa(i) + " 1 1 1{" + strings.Repeat(effect, api.MaxEffects) + "}"
	})
}

// wrong asks for the line of texts of which one is wrong, whatever the script.
func wrong(t *testing.T, pool, decks, want string) {
	t.Helper()
	d, s := report.Load(pool, decks)
	if s != want || !reflect.DeepEqual(d, api.Duel{}) {
		t.Errorf("Load(%.80q, %.80q) = %q, %+v; not %q", pool, decks, s, d, want)
	}
	for _, script := range [][]int{nil, {0}, {0, 0, -1, 7}} {
		if s := report.Run(pool, decks, script); s != want {
			t.Errorf("Run(%.80q, %.80q) = %q, not %q", pool, decks, s, want)
		}
		for _, who := range []uint8{0, 1, 2} {
			if l := report.Sights(pool, decks, script, who); len(l) != 0 {
				t.Errorf("Sights(%.80q, %.80q, %d): %d views", pool, decks, who, len(l))
			}
		}
	}
}

// P20.1: the chapter's example.
func TestExample(t *testing.T) {
	wrong(t, "unit 3", "..", "pool 5 1 6\n")
	wrong(t, "unit a 0 1 1 { }", "..", "pool 9 a\n")
	wrong(t, "unit a 1 1 1 { }", "deck", "decks 5 1 5\n")
}

// P20.1, P20.2, P0.1: of a pool that is wrong its line alone, whatever the decks: a fault's spot, or the name of the card.
func TestWrongPool(t *testing.T) {
	for _, c := range []struct{ pool, want string }{
		{"unit a 1 1 1 { }\n  spell é% { }", "pool 4 2 10\n"},
		{"unit a 1 1 1 { } # \xff", "pool 4 1 20\n"},
		{"unit a 100000 1 1 { }", "pool 3 1 8\n"},
		{"unit a 01 1 1 { }", "pool 5 1 8\n"},
		{"unit a 1 1 1 {\n\tact mine : draw mine 1 ; }", "pool 5 2 6\n"},
		{"unit a 1 1 1 { ", "pool 5 1 16\n"},
		{"unicorn a 1 1 1 { }", "pool 5 1 1\n"},
		{strings.Repeat(" ", api.MaxText+1), "pool 3 1 1\n"},
		{ofCards(api.MaxKinds+1, spell), "pool 3 65 1\n"},
		{"spell a { play : ( 1 ; }", "pool 5 1 18\n"},
		{"unit a 0 1 1 { }", "pool 9 a\n"},
		{"unit a 1 1 1 { } unit a 1 1 1 { }", "pool 7 a\n"},
		{"unit a 1 1 1 { } unit é-1 1 1 1 { } unit a 13 1 1 { } unit é-1 0 1 1 { }", "pool 7 a\n"},
		{"unit a 1 1 1 { } unit é-1 13 1 1 { } unit a 1 1 1 { }", "pool 9 é-1\n"},
		{"unit a 1 1 1 { } spell a { play : destroy ; }", "pool 7 a\n"},
		{"unit a 1 1 1 { }\nspell b { }", "pool 9 b\n"},
		{"trap t { play upon link theirs : negate ; }", "pool 9 t\n"},
		{"unit a 0 1 1 { } unit 3", "pool 5 1 23\n"},
		{dense(), "pool 2 u0\n"},
	} {
		for _, decks := range []string{plain, "", "deck { 4 a }", "%"} {
			wrong(t, c.pool, decks, c.want)
		}
	}
}

// P20.1, P20.2, P0.1: of decks that are wrong, behind a pool that isn't, their line alone.
func TestWrongDecks(t *testing.T) {
	const first = "deck { 3 ogre 2 imp }\n"
	long := "deck { " + ofCards(14, func(i int) string { return "3 s" + strconv.Itoa(i) }) + "}"
	for _, c := range []struct{ pool, decks, want string }{
		{pool, "", "decks 5 1 1\n"},
		{pool, "deck", "decks 5 1 5\n"},
		{pool, first, "decks 5 2 1\n"},
		{pool, "deck { 4 ogre } ?", "decks 4 1 17\n"},
		{pool, "deck { 4 ogre }", "decks 3 1 8\n"},
		{pool, "deck { 0 ogre }", "decks 3 1 8\n"},
		{pool, first + "deck { 3 ogre\n100000 imp }", "decks 3 3 1\n"},
		{pool, first + "deck { 3 ogre\r\n\t2 pig }", "decks 8 3 4\n"},
		{pool, "deck { 1 ogre 1 ogre }", "decks 7 1 17\n"},
		{pool, "deck { 3 ogre }", "decks 9 1 15\n"},
		{pool, first + "deck { 2 ogre 2 imp }", "decks 9 2 21\n"},
		{pool, first + first + "deck", "decks 5 3 1\n"},
		{pool, first + "deck { 3 ogre 2 imp", "decks 5 2 20\n"},
		{pool, strings.Repeat(" ", api.MaxText+1), "decks 3 1 1\n"},
		{ofCards(20, spell), long + long, "decks 9 15 1\n"},
		{"", plain, "decks 8 1 10\n"},
		{strings.Repeat(" ", api.MaxText), plain, "decks 8 1 10\n"},
		{ofCards(api.MaxKinds, spell), plain, "decks 8 1 10\n"},
	} {
		wrong(t, c.pool, c.decks, c.want)
	}
}

// P20.1: the duel of texts that are right is that of their kinds and decks, ahead of the lots.
func TestLoad(t *testing.T) {
	full := func(n int) string {
		return "deck { " + ofCards(13, func(i int) string { return "3 s" + strconv.Itoa(i) }) + strconv.Itoa(n) + " s13 } "
	}
	for _, c := range []struct{ pool, decks string }{
		{pool, plain},
		{"unit ogre 12 99999 99999 { } unit imp 1 0 0 { }", plain},
		{ofCards(api.MaxKinds, spell), full(1) + full(1)},
		{pool, strings.Replace(plain, " deck", "# one more\n\r\tdeck", 1)},
	} {
		kinds, _ := parse.Pool(c.pool)
		both, _ := decks.Read(c.decks, kinds)
		want, e := duel.Begin(kinds, both)
		if e != api.OK {
			t.Fatalf("Begin = %d", e)
		}
		if d, s := report.Load(c.pool, c.decks); s != "" || !duel.Same(d, want) {
			t.Errorf("Load = %q, %+v\nnot %+v", s, d, want)
		}
	}
	d, _ := report.Load(pool, plain)
	for id, def := range []int{0, 0, 0, 1, 1, 1, 1, 0, 0, 0} {
		if p := d.Table.Pieces[id]; p.Def != def || int(p.Owner) != id/5 || p.Zone != api.Deck {
			t.Errorf("the piece %d is %+v", id, p)
		}
	}
	if len(d.Table.Pieces) != 10 || d.Stage != api.AtLot || d.Lots != 5 {
		t.Errorf("Load: %+v", d)
	}
}

// Rule 5: what is answered shares nothing with what is answered another time, or within one answer; the script stays as it was.
func TestApart(t *testing.T) {
	d, _ := report.Load(pool, plain)
	was := duel.Copy(d)
	for range 2 {
		x, _ := report.Load(pool, plain)
		if !duel.Same(x, was) {
			t.Fatalf("Load is another one: %+v", x)
		}
		x.Table.Pieces[0].Up, x.Table.Kinds[2].Effects[0].Steps[0].N.N = true, 9
		x.Table.Kinds[0].Name = "what"
	}
	if !duel.Same(d, was) {
		t.Errorf("Load shares memory: %+v", d)
	}
	room := slices.Repeat([]int{0}, 40)
	script := room[:12:20]
	views, again := report.Sights(pool, plain, script, 0), report.Sights(pool, plain, script, 0)
	for i := range views {
		_ = append(append(views[i].Pieces, api.Seen{At: 5}), make([]api.Seen, cap(views[i].Pieces)-len(views[i].Pieces))...)
		for k := range views[i].Pieces {
			views[i].Pieces[k].At = -7
		}
		for k := range views[i].Options {
			views[i].Options[k].Arg = -7
		}
		for k := i + 1; k < len(views); k++ {
			if !reflect.DeepEqual(views[k], again[k]) {
				t.Fatalf("the views %d and %d share memory", i, k)
			}
		}
	}
	report.Run(pool, plain, script)
	if slices.ContainsFunc(room, func(n int) bool { return n != 0 }) {
		t.Errorf("the script was changed: %v", room)
	}
}
