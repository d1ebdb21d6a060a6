/- joustref28.falls: walked. (Made by gen/mkck.py.) -/
import Derived.Test.YtcemekianoehfaaDoorCkFns
namespace Go.Proofs.YtcemekianoehfaaDoor
open Go.RowKit Go.Lib Go.Sort

theorem fall_dec0 (a b k s n : Int) : fallB a b k 0 true s n = decide ((0 < k ∧ min a k < n - s) ∨ (¬ 0 < k ∧ a < n - s)) := by
  have e : longI a b k 0 = if 0 < k then min a k else a := rfl
  rw [show fallB a b k 0 true s n = decide (longI a b k 0 < n - s) from rfl, e]
  refine decide_eq_decide.2 ?_
  by_cases hk : 0 < k
  · rw [if_pos hk]; omega
  · rw [if_neg hk]; omega
set_option maxHeartbeats 4000000 in
set_option maxRecDepth 100000 in
theorem rfalls_on0 (a b m k : Int) (s : Int) (f : Nat) (n : Int) (hs : 0 ≤ s) (hn : s ≤ n) (hT : n ≤ 1073741824) (w : World) : Calls Tryd.prog 30 #[ckV a b m k 0 true s f, .int .i64 n] w fun e w' => e = .returned (.bool (fallB a b k 0 true s n)) ∧ Below w.heap.size w w' := by
  have HE := Lib.hid (fall_dec0 a b k s n)
  go_enter Tryd.func30, Tryd.ntmps30
  go_wp2
  all_goals
    go_ret
    exact ⟨ret_bool (by rw [HE.out]; first | (symm; exact decide_eq_true (by omega)) | (symm; exact decide_eq_false (by omega)) | (refine decide_eq_decide.2 ?_; omega) | (rw [← Bool.decide_or]; refine decide_eq_decide.2 ?_; omega)), box_below _ _⟩

theorem fall_dec1 (a b k s n : Int) : fallB a b k 1 true s n = decide ((0 < k ∧ min b k < n - s) ∨ (¬ 0 < k ∧ b < n - s)) := by
  have e : longI a b k 1 = if 0 < k then min b k else b := rfl
  rw [show fallB a b k 1 true s n = decide (longI a b k 1 < n - s) from rfl, e]
  refine decide_eq_decide.2 ?_
  by_cases hk : 0 < k
  · rw [if_pos hk]; omega
  · rw [if_neg hk]; omega
set_option maxHeartbeats 4000000 in
set_option maxRecDepth 100000 in
theorem rfalls_on1 (a b m k : Int) (s : Int) (f : Nat) (n : Int) (hs : 0 ≤ s) (hn : s ≤ n) (hT : n ≤ 1073741824) (w : World) : Calls Tryd.prog 30 #[ckV a b m k 1 true s f, .int .i64 n] w fun e w' => e = .returned (.bool (fallB a b k 1 true s n)) ∧ Below w.heap.size w w' := by
  have HE := Lib.hid (fall_dec1 a b k s n)
  go_enter Tryd.func30, Tryd.ntmps30
  go_wp2
  all_goals
    go_ret
    exact ⟨ret_bool (by rw [HE.out]; first | (symm; exact decide_eq_true (by omega)) | (symm; exact decide_eq_false (by omega)) | (refine decide_eq_decide.2 ?_; omega) | (rw [← Bool.decide_or]; refine decide_eq_decide.2 ?_; omega)), box_below _ _⟩

set_option maxHeartbeats 4000000 in
set_option maxRecDepth 100000 in
theorem rfalls_off (a b m k : Int) (h : Nat) (s : Int) (f : Nat) (n : Int) (hs : 0 ≤ s) (hn : s ≤ n) (hT : n ≤ 1073741824) (w : World) : Calls Tryd.prog 30 #[ckV a b m k h false s f, .int .i64 n] w fun e w' => e = .returned (.bool (fallB a b k h false s n)) ∧ Below w.heap.size w w' := by
  go_enter Tryd.func30, Tryd.ntmps30
  go_wp2
  go_ret
  exact ⟨ret_bool (by simp [fallB]), box_below _ _⟩

end Go.Proofs.YtcemekianoehfaaDoor
