package move_test

import (
	"slices"
	"testing"

	"joust/api"
	"joust/duel"
	"joust/move"
)

// told asks how a duel stands: who is asked, both lives, and where pieces are, as 0 says it.
func told(t *testing.T, d api.Duel, who uint8, life [2]int, where map[int]string) {
	t.Helper()
	if p := duel.Ask(d); p.Who != who || d.Table.Life != life {
		t.Errorf("%d is asked at %d, lives %v; not %d, %v", p.Who, p.Stage, d.Table.Life, who, life)
	}
	for id, want := range where {
		if s, _ := move.Where(d.Table, 0, id); s != want {
			t.Errorf("the piece %d is at %q, not %q", id, s, want)
		}
	}
}

// turnOver ends a turn, in which nobody answers.
var turnOver = []string{"end", "pass", "pass"}

// summons is a summon of a card to which nobody answers, neither ahead nor behind.
func summons(s string) []string { return []string{s, "pass", "pass", "pass", "pass"} }

// P21.2, P0.6: a duel by words alone: a summon is negated; a unit is given up for another one.
func TestSummonStory(t *testing.T) {
	d := dealt(t, pool(t), []int{ogre, ogre, lord, ogre, ogre, ogre, ogre, ogre}, []int{bar, ogre, ogre, ogre, ogre, ogre, ogre, ogre})
	d = does(t, d, turnOver...)
	d = does(t, d, "lay my hand 0")
	d = does(t, d, turnOver...)
	d = does(t, d, "summon my hand 1", "card my back 0 0", "pass", "pass")
	told(t, d, 0, [2]int{8000, 8000}, map[int]string{1: "my grave 0", 8: "their grave 0", 2: "my hand 1"})
	noParse(t, "one a turn", d, "summon my hand 0", "set my hand 0")
	d = does(t, d, turnOver...)
	d = does(t, d, "set my hand 5")
	d = does(t, d, turnOver...)
	d = does(t, d, "set my hand 0")
	d = does(t, d, turnOver...)
	d = does(t, d, turnOver...)
	told(t, d, 0, [2]int{8000, 8000}, map[int]string{0: "my row 0", 2: "my hand 0"})
	d = does(t, d, "turn my row 0")
	d = does(t, d, summons("summon my hand 0 for my row 0")[:3]...)
	tells(t, "what must come", d, "card my row 0 0")
	d = does(t, d, "card my row 0 0", "pass", "pass")
	told(t, d, 0, [2]int{8000, 8000}, map[int]string{0: "my grave 1", 2: "my row 0"})
}

// P21.2, P0.6: spells, answers, picks, triggers, a token that comes and goes.
func TestChainStory(t *testing.T) {
	d := dealt(t, pool(t), []int{imp, gust, ghost, ogre, rain, ogre, ogre, ogre, ogre}, []int{stop, gale, ogre, ogre, ogre, ogre, ogre, ogre})
	d = does(t, d, summons("summon my hand 0")...)
	d = does(t, d, "lay my hand 0")
	d = does(t, d, turnOver...)
	d = does(t, d, "lay my hand 0", "lay my hand 0")
	d = does(t, d, summons("summon my hand 0")...)
	d = does(t, d, turnOver...)
	d = does(t, d, summons("summon my hand 0")...)
	told(t, d, 0, [2]int{8000, 8000}, map[int]string{0: "my row 0", 1: "my back 0", 2: "my row 1", 9: "their back 0", 10: "their back 1", 11: "their row 0"})
	d = does(t, d, "play my row 1 0")
	tells(t, "picks", d, "pick my row 0", "pick their row 0")
	d = does(t, d, "pick their row 0")
	tells(t, "answers", d, "pass", "card my back 0 0", "card my back 1 0")
	d = does(t, d, "card my back 1 0", "pick their back 0")
	tells(t, "answers to the answer", d, "pass", "card my row 0 0", "card my back 0 0")
	d = does(t, d, "pass", "pass")
	told(t, d, 0, [2]int{8000, 8000}, map[int]string{1: "my exile 0", 11: "their grave 0", 10: "their grave 1"})
	d = does(t, d, "card my row 0 1", "pass", "pass")
	token := len(d.Table.Pieces) - 1
	told(t, d, 0, [2]int{8000, 8000}, map[int]string{token: "my row 2"})
	d = does(t, d, "battle", "attack my row 0 direct", "pass", "pass", "attack my row 2 direct", "pass", "pass")
	told(t, d, 0, [2]int{8000, 6600}, map[int]string{9: "their back 0"})
	tells(t, "who did not attack", d, "attack my row 1 direct", "end")
}

// P21.2: a word that nobody may say leaves the one who is asked with what may be said.
func TestWindowStory(t *testing.T) {
	d := dealt(t, pool(t), []int{imp, ogre, ogre, ogre, ogre, ogre, ogre, ogre}, []int{gust, imp, ogre, ogre, ogre, ogre, ogre, ogre})
	d = does(t, d, summons("summon my hand 0")...)
	d = does(t, d, turnOver...)
	d = does(t, d, "lay my hand 0")
	d = does(t, d, turnOver...)
	d = does(t, d, "battle", "attack my row 0 direct", "pass")
	tells(t, "the window", d, "pass", "card my back 0 0")
	d = does(t, d, "card my back 0 0", "pick their row 0", "pass", "pass")
	tells(t, "the attacker is bounced", d, "end")
	told(t, d, 0, [2]int{8000, 8000}, map[int]string{0: "my hand 5", 8: "their grave 0"})
	d = does(t, d, "end")
	if l := move.All(d); slices.Contains(l, "battle") || l[0] != "summon my hand 0" || l[len(l)-1] != "end" {
		t.Errorf("All = %q", l)
	}
	d = does(t, d, summons("summon my hand 0")...)
	d = does(t, d, turnOver...)
	d = does(t, d, summons("summon my hand 0")...)
	d = does(t, d, "battle", "attack my row 0 at their row 0", "pass", "pass")
	told(t, d, 1, [2]int{8000, 7200}, map[int]string{9: "their grave 1"})
}

// P21.2: too many in hand are dropped, by their places.
func TestDropStory(t *testing.T) {
	d := dealt(t, pool(t), make([]int, 12), make([]int, 12))
	d = does(t, d, turnOver...)
	d = does(t, d, turnOver...)
	d = does(t, d, turnOver...)
	d = does(t, d, turnOver...)
	tells(t, "drops", d, "drop my hand 0", "drop my hand 1", "drop my hand 2", "drop my hand 3", "drop my hand 4", "drop my hand 5", "drop my hand 6")
	d = does(t, d, "drop my hand 6")
	told(t, d, 0, [2]int{8000, 8000}, map[int]string{18: "their grave 0", 17: "their hand 5"})
}
