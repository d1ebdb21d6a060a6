import Derived.Test.YtbkjminjkjnkpaaGreatDoorQScan
/- scan.Word: what it answers, for every text. -/
namespace Go.Proofs.YtbkjminjkjnkpaaGreatDoor
open Go.RowKit Go.Lib

set_option maxHeartbeats 1000000 in
theorem word_any (s : ByteArray) (w : World) (hs : s.size ≤ maxLen) (hT : Tabs w) :
    Calls Tryz.prog 48 #[.string s] w fun e w' => e = .returned (.bool (wordB s)) ∧ Below w.heap.size w w' := by
  have hc := wordAt_any s w hs hT
  have hle := wordOf_le s
  unfold wordB
  unfold maxLen at hs
  generalize wordOf s = p at *
  obtain ⟨a, b⟩ := p
  have HC := Lib.hid hc
  clear hc
  by_cases h1 : 0 < a <;> by_cases h2 : a = s.size <;> by_cases h3 : b ≤ 24
  all_goals simp only [] at hle
  all_goals
    go_enter Tryz.func48, Tryz.ntmps48
    go_wp2_with fail
    refine HC.out.mono ?_
    rintro e w1 ⟨rfl, b1⟩
    go_wp2
    all_goals (go_ret; exact ⟨ret_bool (by rw [Bool.eq_iff_iff]; simp only [Bool.and_eq_true, decide_eq_true_eq, Bool.false_eq_true, beq_iff_eq, true_iff, false_iff]; omega), b1⟩)
end Go.Proofs.YtbkjminjkjnkpaaGreatDoor
