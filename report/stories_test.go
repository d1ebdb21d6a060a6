package report_test

import (
	"math"
	"slices"
	"strconv"
	"strings"
	"testing"

	"joust/api"
	"joust/duel"
	"joust/parse"
	"joust/report"
)

// did is the line of a decision, refused that of a number which is no option.
func did(who, stage, do, piece, arg int) string {
	return told(who, stage, strconv.Itoa(do), strconv.Itoa(piece), strconv.Itoa(arg))
}

func refused(who, stage int) string { return told(who, stage, "-") }

func told(who, stage int, words ...string) string {
	return strings.Join(append([]string{strconv.Itoa(who), strconv.Itoa(stage)}, words...), " ") + "\n"
}

// lots leaves both decks, of these sizes, in their order.
func lots(first, second int) string {
	return strings.Repeat(did(0, api.AtLot, api.OpLot, -1, 0), first) + strings.Repeat(did(1, api.AtLot, api.OpLot, -1, 0), second)
}

// passes are two, those of a player first.
func passes(who int) string {
	return did(who, api.AtAnswer, api.OpPass, -1, -1) + did(1-who, api.AtAnswer, api.OpPass, -1, -1)
}

// ends is the end of a turn, to which nobody answers.
func ends(who int) string { return did(who, api.AtIdle, api.OpEnd, -1, -1) + passes(who) }

func idle(who, do, piece, arg int) string { return did(who, api.AtIdle, do, piece, arg) }

// summons is a summon to which nobody answers.
func summons(who, piece int) string {
	return idle(who, api.OpSummon, piece, -1) + passes(1-who) + passes(who)
}

// story is a duel: its decks, its record, how it stands then, and what 1 sees to lie there.
type story struct{ name, decks, record, ending, lies string }

func stories() []story {
	return []story{
		{"nothing", plain, "", "life 8000 8000\nturn 1 player 0\nstage 0\n", ""},
		{"the second one's lots", plain, lots(5, 2), "life 8000 8000\nturn 1 player 0\nstage 0\n", ""},
		{"a number that is no option", plain, refused(0, 0) + lots(5, 0) + refused(1, 0) + refused(1, 0) + lots(0, 5) + refused(0, 1) + idle(0, api.OpSummon, 0, -1) + refused(1, 3), "life 8000 8000\nturn 1 player 0\nstage 3\n", "0 limbo ogre"},
		{"a summon", plain, lots(5, 5) + summons(0, 0), "life 8000 8000\nturn 1 player 0\nstage 1\n", "0 row ogre"},
		{"a summon is negated", "deck { 3 ogre 3 imp } deck { 1 bar 3 ogre 2 imp }",
			lots(6, 6) + ends(0) + idle(1, api.OpLay, 6, -1) + ends(1) +
				idle(0, api.OpSummon, 0, -1) + did(1, api.AtAnswer, api.OpCard, 6, 0) + passes(0),
			"life 8000 8000\nturn 3 player 0\nstage 1\n", "0 grave ogre, 1 grave bar"},
		{"a spell, a quick, a counter", "deck { 1 rain 1 no 3 ogre 3 imp } deck { 1 fog 3 ogre 3 imp }",
			lots(8, 7) + idle(0, api.OpLay, 1, -1) + ends(0) + idle(1, api.OpLay, 8, -1) + ends(1) +
				idle(0, api.OpPlay, 0, 0) + did(1, api.AtAnswer, api.OpCard, 8, 0) + did(0, api.AtAnswer, api.OpCard, 1, 0) + passes(1),
			"life 8000 7500\nturn 3 player 0\nstage 1\n", "0 grave rain, 0 grave no, 1 grave fog"},
		{"a spell, a quick", "deck { 1 rain 1 no 3 ogre 3 imp } deck { 1 fog 3 ogre 3 imp }",
			lots(8, 7) + idle(0, api.OpLay, 1, -1) + ends(0) + idle(1, api.OpLay, 8, -1) + ends(1) +
				idle(0, api.OpPlay, 0, 0) + did(1, api.AtAnswer, api.OpCard, 8, 0) + passes(0),
			"life 8000 7800\nturn 3 player 0\nstage 1\n", "0 back ?, 0 grave rain, 1 grave fog"},
		{"what must come, then what may", "deck { 1 echo 1 blast 3 ogre 3 imp } deck { 1 ghost 3 ogre 3 imp }",
			lots(8, 7) + summons(0, 0) + ends(0) + summons(1, 8) + ends(1) +
				idle(0, api.OpPlay, 1, 0) + passes(1) + did(1, api.AtOrder, api.OpCard, 8, 0) + did(0, api.AtOrder, api.OpCard, 0, 0) + passes(1),
			"life 7900 8000\nturn 3 player 0\nstage 1\n", "0 grave echo, 0 grave blast, 1 grave ghost"},
		{"a when is not missed", "deck { 1 late 1 echo 1 blast 3 ogre 3 imp } deck { 3 ogre 3 imp }",
			lots(9, 6) + summons(0, 0) + ends(0) + ends(1) + summons(0, 1) +
				idle(0, api.OpPlay, 2, 0) + passes(1) + did(0, api.AtOrder, api.OpCard, 0, 0) + did(0, api.AtOrder, api.OpCard, 1, 0) + passes(1),
			"life 8000 8000\nturn 3 player 0\nstage 1\n", "0 grave late, 0 grave echo, 0 grave blast"},
		{"a when is missed, an if is not", "deck { 1 late 1 echo 1 slow 3 ogre 3 imp } deck { 3 ogre 3 imp }",
			lots(9, 6) + summons(0, 0) + ends(0) + ends(1) + summons(0, 1) +
				idle(0, api.OpPlay, 2, 0) + passes(1) + did(0, api.AtOrder, api.OpCard, 1, 0) + passes(1),
			"life 8100 8000\nturn 3 player 0\nstage 1\n", "0 grave late, 0 grave echo, 0 grave slow"},
		{"what may come is let go", "deck { 1 echo 1 blast 3 ogre 3 imp } deck { 3 ogre 3 imp }",
			lots(8, 6) + summons(0, 0) + idle(0, api.OpPlay, 1, 0) + passes(1) + did(0, api.AtOrder, api.OpPass, -1, -1),
			"life 8000 8000\nturn 1 player 0\nstage 1\n", "0 grave echo, 0 grave blast"},
		{"an attack", "deck { 3 ogre 3 imp } deck { 1 gale 3 ogre 3 imp }",
			lots(6, 7) + summons(0, 0) + ends(0) + idle(1, api.OpLay, 6, -1) + ends(1) +
				idle(0, api.OpBattle, -1, -1) + did(0, api.AtBattle, api.OpAttack, 0, -1) + passes(0),
			"life 8000 6200\nturn 3 player 0\nstage 5\n", "0 row ogre, 1 back gale"},
		{"an attacker is bounced", "deck { 3 ogre 3 imp } deck { 1 gale 3 ogre 3 imp }",
			lots(6, 7) + summons(0, 0) + ends(0) + idle(1, api.OpLay, 6, -1) + ends(1) +
				idle(0, api.OpBattle, -1, -1) + did(0, api.AtBattle, api.OpAttack, 0, -1) +
				did(0, api.AtAnswer, api.OpPass, -1, -1) + did(1, api.AtAnswer, api.OpCard, 6, 0) + did(1, api.AtPick, api.OpPick, 0, -1) + passes(0),
			"life 8000 8000\nturn 3 player 0\nstage 5\n", "1 grave gale"},
		{"what was picked went elsewhere", "deck { 1 kill 3 ogre 3 imp } deck { 1 save 1 echo 3 ogre 3 imp }",
			lots(7, 8) + ends(0) + summons(1, 8) + idle(1, api.OpLay, 7, -1) + ends(1) +
				idle(0, api.OpPlay, 0, 0) + did(0, api.AtPick, api.OpPick, 8, -1) +
				did(1, api.AtAnswer, api.OpCard, 7, 0) + did(1, api.AtPick, api.OpPick, 8, -1) + passes(0),
			"life 8000 8000\nturn 3 player 0\nstage 1\n", "0 grave kill, 1 grave save"},
		{"what was picked is destroyed", "deck { 1 kill 3 ogre 3 imp } deck { 1 save 1 echo 3 ogre 3 imp }",
			lots(7, 8) + ends(0) + summons(1, 8) + idle(1, api.OpLay, 7, -1) + ends(1) +
				idle(0, api.OpPlay, 0, 0) + did(0, api.AtPick, api.OpPick, 8, -1) + passes(1) + did(1, api.AtOrder, api.OpPass, -1, -1),
			"life 8000 8000\nturn 3 player 0\nstage 1\n", "0 grave kill, 1 back save, 1 grave echo"},
		{"too many in hand", "deck { 1 book 3 ogre 3 imp 3 echo } deck { 3 ogre 3 imp }",
			lots(10, 6) + idle(0, api.OpPlay, 0, 0) + passes(1) + ends(0) + refused(0, api.AtDrop) + did(0, api.AtDrop, api.OpDrop, 2, -1) + idle(1, api.OpBattle, -1, -1),
			"life 8000 8000\nturn 2 player 1\nstage 5\n", "0 grave book, 0 grave ogre"},
		{"a unit that is set", plain, lots(5, 5) + idle(0, api.OpSet, 3, -1), "life 8000 8000\nturn 1 player 0\nstage 1\n", "0 row ?"},
		{"no card to draw", plain, lots(5, 5) + ends(0) + refused(0, api.AtOver) + refused(0, api.AtOver), "life 8000 8000\nturn 2 player 1\nstage 7\nover 2 0\n", ""},
		{"no life", "deck { 2 fell 3 ogre } deck { 3 ogre 2 imp }", lots(5, 5) + idle(0, api.OpPlay, 1, 0) + passes(1), "life 8000 0\nturn 1 player 0\nstage 7\nover 1 0\n", "0 grave fell"},
		{"no life of the first one", "deck { 3 ogre 3 imp } deck { 3 ogre 3 fell }", lots(6, 6) + ends(0) + idle(1, api.OpPlay, 9, 0) + passes(0) + refused(0, api.AtOver), "life 0 8000\nturn 2 player 1\nstage 7\nover 1 1\n", "1 grave fell"},
		{"no life of both", "deck { 2 doom 3 ogre } deck { 3 ogre 2 imp }", lots(5, 5) + idle(0, api.OpPlay, 0, 0) + passes(1), "life 0 0\nturn 1 player 0\nstage 7\nover 1 2\n", "0 grave doom"},
		{"a bird that comes again and again", "deck { 1 bird 3 ogre 2 imp } deck { 3 ogre 2 imp }",
			lots(6, 5) + idle(0, api.OpSummon, 0, -1) + passes(1) +
				strings.Repeat(did(0, api.AtOrder, api.OpCard, 0, 0)+passes(1)+did(0, api.AtOrder, api.OpCard, 0, 1)+passes(1), api.MaxRounds/2),
			"life 8000 8000\nturn 1 player 0\nstage 7\nover 4 2\n", "0 row bird"},
	}
}

// noNumber is a number that is no option's, of so many.
func noNumber(i, options int) int {
	return []int{options, -1, math.MaxInt, options + 1, math.MinInt, -options}[i%6]
}

// number is that of the option of a line, in a duel.
func number(t *testing.T, d api.Duel, i int, line string) int {
	t.Helper()
	p := duel.Ask(d)
	if strings.HasSuffix(line, "-\n") {
		return noNumber(i, max(len(p.Options), 1))
	}
	n := slices.IndexFunc(p.Options, func(o api.Option) bool {
		return did(int(p.Who), int(p.Stage), int(o.Do), o.Piece, o.Arg) == line
	})
	if n < 0 {
		t.Fatalf("%d: no %q of %+v", i, line, p)
	}
	return n
}

// script is the numbers of a record.
func script(t *testing.T, decks, record string) []int {
	t.Helper()
	d, wrong := report.Load(pool, decks)
	if wrong != "" {
		t.Fatalf("Load(%q) = %q", decks, wrong)
	}
	var numbers []int
	for line := range strings.Lines(record) {
		n := number(t, d, len(numbers), line)
		numbers = append(numbers, n)
		d, _ = duel.Decide(d, n)
	}
	return numbers
}

// lies tells what is to be seen on the table, but in decks and hands.
func lies(t *testing.T, v api.View) string {
	t.Helper()
	kinds, _ := parse.Pool(pool)
	var l []string
	for _, s := range v.Pieces {
		if s.Zone == api.Deck || s.Zone == api.Hand {
			continue
		}
		name := "?"
		if s.Known && s.Def >= 0 {
			name = kinds[s.Def].Name
		}
		l = append(l, strconv.Itoa(int(s.Has))+" "+[]string{"", "", "row", "back", "grave", "exile", "limbo"}[s.Zone]+" "+name)
	}
	return strings.Join(l, ", ")
}

// P20.1, P0.1 to P0.4: whole duels, their records and how they end, from texts.
func TestStories(t *testing.T) {
	for _, c := range stories() {
		t.Run(c.name, func(t *testing.T) {
			numbers := script(t, c.decks, c.record)
			if s := report.Run(pool, c.decks, numbers); s != c.record+c.ending {
				t.Errorf("Run = %q\nnot %q", s, c.record+c.ending)
			}
			views := report.Sights(pool, c.decks, numbers, 1)
			if s := lies(t, views[len(numbers)]); s != c.lies {
				t.Errorf("there lies %q, not %q", s, c.lies)
			}
		})
	}
}
