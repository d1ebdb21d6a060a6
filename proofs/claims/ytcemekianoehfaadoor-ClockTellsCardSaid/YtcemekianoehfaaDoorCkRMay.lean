/- joustref28.May: walked. (Made by gen/mkckmay.py.) -/
import Derived.Test.YtcemekianoehfaaDoorCkBase
namespace Go.Proofs.YtcemekianoehfaaDoor
open Go.RowKit Go.Lib

theorem within_yes {n : Int} (h : timeB n = true) (w : World) : Calls Tryd.prog 20 #[.int .i64 n] w fun e w' => e = .returned (.bool true) ∧ w' = w := by rw [← h]; exact within_any n w
theorem within_no {n : Int} (h : timeB n = false) (w : World) : Calls Tryd.prog 20 #[.int .i64 n] w fun e w' => e = .returned (.bool false) ∧ w' = w := by rw [← h]; exact within_any n w

theorem below_dr {b : Nat} {w w' : World} (h : Below b w w') (n : Nat) : Below b w (w'.drewN n) := by
  induction n with
  | zero => exact h
  | succ n ih => exact ih.drew
set_option maxHeartbeats 4000000 in
theorem rmay_aTime (a b m k : Int) (h : Nat) (on : Bool) (s : Int) (f : Nat) (ha : timeB a = false) (w : World) : Calls Tryd.prog 8 #[ckV a b m k h on s f] w fun e w' => e = .returned (.bool (mayB a b m k h on s f)) ∧ Below w.heap.size w w' := by
  go_enter Tryd.func8, Tryd.ntmps8
  go_wp2
  refine wp_loop_rounds 3 ?_
  rw [rounds_succ]
  go_wp2
  go_quiet (first | (go_at_call 20; exact (within_no ha _).mono (fun _ _ h => ⟨h.1, _, h.2⟩)))
  go_wp2
  go_ret
  exact ⟨ret_bool (bool_no mayB_iff (by rw [timeB_no] at ha; omega)), (by repeat (first | (with_reducible exact (Below.refl _ _).alloc (Nat.le_refl _) _) | (with_reducible refine below_dr ?_ _)))⟩
set_option maxHeartbeats 4000000 in
theorem rmay_0_z_t (a b m k : Int) (h : Nat) (on : Bool) (s : Int) (ha : timeB a = true) (az : a = 0) (hb : timeB b = false) (w : World) : Calls Tryd.prog 8 #[ckV a b m k h on s 0] w fun e w' => e = .returned (.bool (mayB a b m k h on s 0)) ∧ Below w.heap.size w w' := by
  subst az
  go_enter Tryd.func8, Tryd.ntmps8
  go_wp2
  refine wp_loop_rounds 3 ?_
  rw [rounds_succ]
  go_wp2
  go_quiet (first | (go_at_call 20; exact (within_yes ha _).mono (fun _ _ h => ⟨h.1, _, h.2⟩)))
  go_wp2
  rw [rounds_succ]
  go_wp2
  go_quiet (first | (go_at_call 20; exact (within_no hb _).mono (fun _ _ h => ⟨h.1, _, h.2⟩)))
  go_wp2
  go_ret
  exact ⟨ret_bool (bool_no mayB_iff (by rw [timeB_no] at hb; omega)), (by repeat (first | (with_reducible exact (Below.refl _ _).alloc (Nat.le_refl _) _) | (with_reducible refine below_dr ?_ _)))⟩
set_option maxHeartbeats 4000000 in
theorem rmay_0_z_z (a b m k : Int) (h : Nat) (on : Bool) (s : Int) (ha : timeB a = true) (az : a = 0) (hb : timeB b = true) (bz : b = 0) (w : World) : Calls Tryd.prog 8 #[ckV a b m k h on s 0] w fun e w' => e = .returned (.bool (mayB a b m k h on s 0)) ∧ Below w.heap.size w w' := by
  subst az
  subst bz
  go_enter Tryd.func8, Tryd.ntmps8
  go_wp2
  refine wp_loop_rounds 3 ?_
  rw [rounds_succ]
  go_wp2
  go_quiet (first | (go_at_call 20; exact (within_yes ha _).mono (fun _ _ h => ⟨h.1, _, h.2⟩)))
  go_wp2
  rw [rounds_succ]
  go_wp2
  go_quiet (first | (go_at_call 20; exact (within_yes hb _).mono (fun _ _ h => ⟨h.1, _, h.2⟩)))
  go_wp2
  go_ret
  exact ⟨ret_bool (bool_no mayB_iff (by omega)), (by repeat (first | (with_reducible exact (Below.refl _ _).alloc (Nat.le_refl _) _) | (with_reducible refine below_dr ?_ _)))⟩
set_option maxHeartbeats 4000000 in
theorem rmay_0_z_n (a b m k : Int) (h : Nat) (on : Bool) (s : Int) (ha : timeB a = true) (az : a = 0) (hb : timeB b = true) (bz : ¬ b = 0) (w : World) : Calls Tryd.prog 8 #[ckV a b m k h on s 0] w fun e w' => e = .returned (.bool (mayB a b m k h on s 0)) ∧ Below w.heap.size w w' := by
  have hon : on = true ∨ on = false := by cases on <;> simp
  cases on
  all_goals
    subst az
    have q1 : (b == 0) = false := by simp [bz]
    go_enter Tryd.func8, Tryd.ntmps8
    go_wp2
    refine wp_loop_rounds 3 ?_
    rw [rounds_succ]
    go_wp2
    go_quiet (first | (go_at_call 20; exact (within_yes ha _).mono (fun _ _ h => ⟨h.1, _, h.2⟩)))
    go_wp2
    rw [rounds_succ]
    go_wp2
    go_quiet (first | (go_at_call 20; exact (within_yes hb _).mono (fun _ _ h => ⟨h.1, _, h.2⟩)))
    go_wp2
    rw [rounds_succ]
    go_wp2_with (go_at_call 20; refine (within_any _ _).mono ?_; rintro e w' ⟨rfl, rfl⟩)
    all_goals
      go_ret
      refine ⟨ret_bool ?_, below_dr (by repeat (first | (with_reducible exact (Below.refl _ _).alloc (Nat.le_refl _) _) | (with_reducible refine below_dr ?_ _))) _⟩
      rw [timeB_iff] at ha hb; (try clear q0); (try clear q1)
      try simp only [timeB_iff, timeB_no, Bool.not_eq_true, Bool.not_eq_false, Bool.not_eq_true', Bool.not_eq_false', beq_iff_eq, bne_iff_ne, beq_eq_false_iff_ne, bne_eq_false_iff_eq, ne_eq] at *
    all_goals
      first
      | (refine bool_no mayB_iff ?_; simp only [reduceCtorEq, or_true, or_false, and_true, true_and, and_false, false_and, iff_true, iff_false, true_iff, false_iff, not_false_eq_true, true_or, false_or] <;> omega)
      | (refine bool_yes mayB_iff ?_; simp only [reduceCtorEq, or_true, or_false, and_true, true_and, and_false, false_and, iff_true, iff_false, true_iff, false_iff, not_false_eq_true, true_or, false_or] <;> omega)
      | (rcases Bool.eq_false_or_eq_true (timeB s) with hs | hs <;> rw [hs] <;> first | (rw [timeB_iff] at hs; refine bool_yes mayB_iff ?_; simp only [reduceCtorEq, or_true, or_false, and_true, true_and, and_false, false_and, iff_true, iff_false, true_iff, false_iff, not_false_eq_true, true_or, false_or] <;> omega) | (rw [timeB_no] at hs; refine bool_no mayB_iff ?_; simp only [reduceCtorEq, or_true, or_false, and_true, true_and, and_false, false_and, iff_true, iff_false, true_iff, false_iff, not_false_eq_true, true_or, false_or] <;> omega))
set_option maxHeartbeats 4000000 in
theorem rmay_0_n (a b m k : Int) (h : Nat) (on : Bool) (s : Int) (ha : timeB a = true) (az : ¬ a = 0) (w : World) : Calls Tryd.prog 8 #[ckV a b m k h on s 0] w fun e w' => e = .returned (.bool (mayB a b m k h on s 0)) ∧ Below w.heap.size w w' := by
  have q0 : (a == 0) = false := by simp [az]
  go_enter Tryd.func8, Tryd.ntmps8
  go_wp2
  refine wp_loop_rounds 3 ?_
  rw [rounds_succ]
  go_wp2
  go_quiet (first | (go_at_call 20; exact (within_yes ha _).mono (fun _ _ h => ⟨h.1, _, h.2⟩)))
  go_wp2
  go_ret
  exact ⟨ret_bool (bool_no mayB_iff (by omega)), (by repeat (first | (with_reducible exact (Below.refl _ _).alloc (Nat.le_refl _) _) | (with_reducible refine below_dr ?_ _)))⟩
set_option maxHeartbeats 4000000 in
theorem rmay_1_z (a b m k : Int) (h : Nat) (on : Bool) (s : Int) (ha : timeB a = true) (az : a = 0) (w : World) : Calls Tryd.prog 8 #[ckV a b m k h on s 1] w fun e w' => e = .returned (.bool (mayB a b m k h on s 1)) ∧ Below w.heap.size w w' := by
  subst az
  go_enter Tryd.func8, Tryd.ntmps8
  go_wp2
  refine wp_loop_rounds 3 ?_
  rw [rounds_succ]
  go_wp2
  go_quiet (first | (go_at_call 20; exact (within_yes ha _).mono (fun _ _ h => ⟨h.1, _, h.2⟩)))
  go_wp2
  go_ret
  exact ⟨ret_bool (bool_no mayB_iff (by omega)), (by repeat (first | (with_reducible exact (Below.refl _ _).alloc (Nat.le_refl _) _) | (with_reducible refine below_dr ?_ _)))⟩
set_option maxHeartbeats 4000000 in
theorem rmay_1_n_t (a b m k : Int) (h : Nat) (on : Bool) (s : Int) (ha : timeB a = true) (az : ¬ a = 0) (hb : timeB b = false) (w : World) : Calls Tryd.prog 8 #[ckV a b m k h on s 1] w fun e w' => e = .returned (.bool (mayB a b m k h on s 1)) ∧ Below w.heap.size w w' := by
  have q0 : (a == 0) = false := by simp [az]
  go_enter Tryd.func8, Tryd.ntmps8
  go_wp2
  refine wp_loop_rounds 3 ?_
  rw [rounds_succ]
  go_wp2
  go_quiet (first | (go_at_call 20; exact (within_yes ha _).mono (fun _ _ h => ⟨h.1, _, h.2⟩)))
  go_wp2
  rw [rounds_succ]
  go_wp2
  go_quiet (first | (go_at_call 20; exact (within_no hb _).mono (fun _ _ h => ⟨h.1, _, h.2⟩)))
  go_wp2
  go_ret
  exact ⟨ret_bool (bool_no mayB_iff (by rw [timeB_no] at hb; omega)), (by repeat (first | (with_reducible exact (Below.refl _ _).alloc (Nat.le_refl _) _) | (with_reducible refine below_dr ?_ _)))⟩
set_option maxHeartbeats 4000000 in
theorem rmay_1_n_z (a b m k : Int) (h : Nat) (on : Bool) (s : Int) (ha : timeB a = true) (az : ¬ a = 0) (hb : timeB b = true) (bz : b = 0) (w : World) : Calls Tryd.prog 8 #[ckV a b m k h on s 1] w fun e w' => e = .returned (.bool (mayB a b m k h on s 1)) ∧ Below w.heap.size w w' := by
  have hon : on = true ∨ on = false := by cases on <;> simp
  cases on
  all_goals
    have q0 : (a == 0) = false := by simp [az]
    subst bz
    go_enter Tryd.func8, Tryd.ntmps8
    go_wp2
    refine wp_loop_rounds 3 ?_
    rw [rounds_succ]
    go_wp2
    go_quiet (first | (go_at_call 20; exact (within_yes ha _).mono (fun _ _ h => ⟨h.1, _, h.2⟩)))
    go_wp2
    rw [rounds_succ]
    go_wp2
    go_quiet (first | (go_at_call 20; exact (within_yes hb _).mono (fun _ _ h => ⟨h.1, _, h.2⟩)))
    go_wp2
    rw [rounds_succ]
    go_wp2_with (go_at_call 20; refine (within_any _ _).mono ?_; rintro e w' ⟨rfl, rfl⟩)
    all_goals
      go_ret
      refine ⟨ret_bool ?_, below_dr (by repeat (first | (with_reducible exact (Below.refl _ _).alloc (Nat.le_refl _) _) | (with_reducible refine below_dr ?_ _))) _⟩
      rw [timeB_iff] at ha hb; (try clear q0); (try clear q1)
      try simp only [timeB_iff, timeB_no, Bool.not_eq_true, Bool.not_eq_false, Bool.not_eq_true', Bool.not_eq_false', beq_iff_eq, bne_iff_ne, beq_eq_false_iff_ne, bne_eq_false_iff_eq, ne_eq] at *
    all_goals
      first
      | (refine bool_no mayB_iff ?_; simp only [reduceCtorEq, or_true, or_false, and_true, true_and, and_false, false_and, iff_true, iff_false, true_iff, false_iff, not_false_eq_true, true_or, false_or] <;> omega)
      | (refine bool_yes mayB_iff ?_; simp only [reduceCtorEq, or_true, or_false, and_true, true_and, and_false, false_and, iff_true, iff_false, true_iff, false_iff, not_false_eq_true, true_or, false_or] <;> omega)
      | (rcases Bool.eq_false_or_eq_true (timeB s) with hs | hs <;> rw [hs] <;> first | (rw [timeB_iff] at hs; refine bool_yes mayB_iff ?_; simp only [reduceCtorEq, or_true, or_false, and_true, true_and, and_false, false_and, iff_true, iff_false, true_iff, false_iff, not_false_eq_true, true_or, false_or] <;> omega) | (rw [timeB_no] at hs; refine bool_no mayB_iff ?_; simp only [reduceCtorEq, or_true, or_false, and_true, true_and, and_false, false_and, iff_true, iff_false, true_iff, false_iff, not_false_eq_true, true_or, false_or] <;> omega))
set_option maxHeartbeats 4000000 in
theorem rmay_1_n_n (a b m k : Int) (h : Nat) (on : Bool) (s : Int) (ha : timeB a = true) (az : ¬ a = 0) (hb : timeB b = true) (bz : ¬ b = 0) (w : World) : Calls Tryd.prog 8 #[ckV a b m k h on s 1] w fun e w' => e = .returned (.bool (mayB a b m k h on s 1)) ∧ Below w.heap.size w w' := by
  have q0 : (a == 0) = false := by simp [az]
  have q1 : (b == 0) = false := by simp [bz]
  go_enter Tryd.func8, Tryd.ntmps8
  go_wp2
  refine wp_loop_rounds 3 ?_
  rw [rounds_succ]
  go_wp2
  go_quiet (first | (go_at_call 20; exact (within_yes ha _).mono (fun _ _ h => ⟨h.1, _, h.2⟩)))
  go_wp2
  rw [rounds_succ]
  go_wp2
  go_quiet (first | (go_at_call 20; exact (within_yes hb _).mono (fun _ _ h => ⟨h.1, _, h.2⟩)))
  go_wp2
  go_ret
  exact ⟨ret_bool (bool_no mayB_iff (by omega)), (by repeat (first | (with_reducible exact (Below.refl _ _).alloc (Nat.le_refl _) _) | (with_reducible refine below_dr ?_ _)))⟩
set_option maxHeartbeats 4000000 in
theorem rmay_2_z (a b m k : Int) (h : Nat) (on : Bool) (s : Int) (ha : timeB a = true) (az : a = 0) (w : World) : Calls Tryd.prog 8 #[ckV a b m k h on s 2] w fun e w' => e = .returned (.bool (mayB a b m k h on s 2)) ∧ Below w.heap.size w w' := by
  subst az
  go_enter Tryd.func8, Tryd.ntmps8
  go_wp2
  refine wp_loop_rounds 3 ?_
  rw [rounds_succ]
  go_wp2
  go_quiet (first | (go_at_call 20; exact (within_yes ha _).mono (fun _ _ h => ⟨h.1, _, h.2⟩)))
  go_wp2
  go_ret
  exact ⟨ret_bool (bool_no mayB_iff (by omega)), (by repeat (first | (with_reducible exact (Below.refl _ _).alloc (Nat.le_refl _) _) | (with_reducible refine below_dr ?_ _)))⟩
set_option maxHeartbeats 4000000 in
theorem rmay_2_n_t (a b m k : Int) (h : Nat) (on : Bool) (s : Int) (ha : timeB a = true) (az : ¬ a = 0) (hb : timeB b = false) (w : World) : Calls Tryd.prog 8 #[ckV a b m k h on s 2] w fun e w' => e = .returned (.bool (mayB a b m k h on s 2)) ∧ Below w.heap.size w w' := by
  have q0 : (a == 0) = false := by simp [az]
  go_enter Tryd.func8, Tryd.ntmps8
  go_wp2
  refine wp_loop_rounds 3 ?_
  rw [rounds_succ]
  go_wp2
  go_quiet (first | (go_at_call 20; exact (within_yes ha _).mono (fun _ _ h => ⟨h.1, _, h.2⟩)))
  go_wp2
  rw [rounds_succ]
  go_wp2
  go_quiet (first | (go_at_call 20; exact (within_no hb _).mono (fun _ _ h => ⟨h.1, _, h.2⟩)))
  go_wp2
  go_ret
  exact ⟨ret_bool (bool_no mayB_iff (by rw [timeB_no] at hb; omega)), (by repeat (first | (with_reducible exact (Below.refl _ _).alloc (Nat.le_refl _) _) | (with_reducible refine below_dr ?_ _)))⟩
set_option maxHeartbeats 4000000 in
theorem rmay_2_n_z (a b m k : Int) (h : Nat) (on : Bool) (s : Int) (ha : timeB a = true) (az : ¬ a = 0) (hb : timeB b = true) (bz : b = 0) (w : World) : Calls Tryd.prog 8 #[ckV a b m k h on s 2] w fun e w' => e = .returned (.bool (mayB a b m k h on s 2)) ∧ Below w.heap.size w w' := by
  have q0 : (a == 0) = false := by simp [az]
  subst bz
  go_enter Tryd.func8, Tryd.ntmps8
  go_wp2
  refine wp_loop_rounds 3 ?_
  rw [rounds_succ]
  go_wp2
  go_quiet (first | (go_at_call 20; exact (within_yes ha _).mono (fun _ _ h => ⟨h.1, _, h.2⟩)))
  go_wp2
  rw [rounds_succ]
  go_wp2
  go_quiet (first | (go_at_call 20; exact (within_yes hb _).mono (fun _ _ h => ⟨h.1, _, h.2⟩)))
  go_wp2
  go_ret
  exact ⟨ret_bool (bool_no mayB_iff (by omega)), (by repeat (first | (with_reducible exact (Below.refl _ _).alloc (Nat.le_refl _) _) | (with_reducible refine below_dr ?_ _)))⟩
set_option maxHeartbeats 4000000 in
theorem rmay_2_n_n (a b m k : Int) (h : Nat) (on : Bool) (s : Int) (ha : timeB a = true) (az : ¬ a = 0) (hb : timeB b = true) (bz : ¬ b = 0) (w : World) : Calls Tryd.prog 8 #[ckV a b m k h on s 2] w fun e w' => e = .returned (.bool (mayB a b m k h on s 2)) ∧ Below w.heap.size w w' := by
  have hon : on = true ∨ on = false := by cases on <;> simp
  cases on
  all_goals
    have q0 : (a == 0) = false := by simp [az]
    have q1 : (b == 0) = false := by simp [bz]
    go_enter Tryd.func8, Tryd.ntmps8
    go_wp2
    refine wp_loop_rounds 3 ?_
    rw [rounds_succ]
    go_wp2
    go_quiet (first | (go_at_call 20; exact (within_yes ha _).mono (fun _ _ h => ⟨h.1, _, h.2⟩)))
    go_wp2
    rw [rounds_succ]
    go_wp2
    go_quiet (first | (go_at_call 20; exact (within_yes hb _).mono (fun _ _ h => ⟨h.1, _, h.2⟩)))
    go_wp2
    rw [rounds_succ]
    go_wp2_with (go_at_call 20; refine (within_any _ _).mono ?_; rintro e w' ⟨rfl, rfl⟩)
    all_goals
      go_ret
      refine ⟨ret_bool ?_, below_dr (by repeat (first | (with_reducible exact (Below.refl _ _).alloc (Nat.le_refl _) _) | (with_reducible refine below_dr ?_ _))) _⟩
      rw [timeB_iff] at ha hb; (try clear q0); (try clear q1)
      try simp only [timeB_iff, timeB_no, Bool.not_eq_true, Bool.not_eq_false, Bool.not_eq_true', Bool.not_eq_false', beq_iff_eq, bne_iff_ne, beq_eq_false_iff_ne, bne_eq_false_iff_eq, ne_eq] at *
    all_goals
      first
      | (refine bool_no mayB_iff ?_; simp only [reduceCtorEq, or_true, or_false, and_true, true_and, and_false, false_and, iff_true, iff_false, true_iff, false_iff, not_false_eq_true, true_or, false_or] <;> omega)
      | (refine bool_yes mayB_iff ?_; simp only [reduceCtorEq, or_true, or_false, and_true, true_and, and_false, false_and, iff_true, iff_false, true_iff, false_iff, not_false_eq_true, true_or, false_or] <;> omega)
      | (rcases Bool.eq_false_or_eq_true (timeB s) with hs | hs <;> rw [hs] <;> first | (rw [timeB_iff] at hs; refine bool_yes mayB_iff ?_; simp only [reduceCtorEq, or_true, or_false, and_true, true_and, and_false, false_and, iff_true, iff_false, true_iff, false_iff, not_false_eq_true, true_or, false_or] <;> omega) | (rw [timeB_no] at hs; refine bool_no mayB_iff ?_; simp only [reduceCtorEq, or_true, or_false, and_true, true_and, and_false, false_and, iff_true, iff_false, true_iff, false_iff, not_false_eq_true, true_or, false_or] <;> omega))
set_option maxHeartbeats 4000000 in
theorem rmay_hi_z (a b m k : Int) (h : Nat) (on : Bool) (s : Int) (f : Nat) (hf : 3 ≤ f) (hg : f < 256) (ha : timeB a = true) (az : a = 0) (w : World) : Calls Tryd.prog 8 #[ckV a b m k h on s f] w fun e w' => e = .returned (.bool (mayB a b m k h on s f)) ∧ Below w.heap.size w w' := by
  have qf0 : ((f : Int) == 0) = false := by simp; omega
  have qf1 : ((f : Int) == 1) = false := by simp; omega
  subst az
  go_enter Tryd.func8, Tryd.ntmps8
  go_wp2
  refine wp_loop_rounds 3 ?_
  rw [rounds_succ]
  go_wp2
  go_quiet (first | (go_at_call 20; exact (within_yes ha _).mono (fun _ _ h => ⟨h.1, _, h.2⟩)))
  go_wp2
  go_ret
  exact ⟨ret_bool (bool_no mayB_iff (by omega)), (by repeat (first | (with_reducible exact (Below.refl _ _).alloc (Nat.le_refl _) _) | (with_reducible refine below_dr ?_ _)))⟩
set_option maxHeartbeats 4000000 in
theorem rmay_hi_n_t (a b m k : Int) (h : Nat) (on : Bool) (s : Int) (f : Nat) (hf : 3 ≤ f) (hg : f < 256) (ha : timeB a = true) (az : ¬ a = 0) (hb : timeB b = false) (w : World) : Calls Tryd.prog 8 #[ckV a b m k h on s f] w fun e w' => e = .returned (.bool (mayB a b m k h on s f)) ∧ Below w.heap.size w w' := by
  have qf0 : ((f : Int) == 0) = false := by simp; omega
  have qf1 : ((f : Int) == 1) = false := by simp; omega
  have q0 : (a == 0) = false := by simp [az]
  go_enter Tryd.func8, Tryd.ntmps8
  go_wp2
  refine wp_loop_rounds 3 ?_
  rw [rounds_succ]
  go_wp2
  go_quiet (first | (go_at_call 20; exact (within_yes ha _).mono (fun _ _ h => ⟨h.1, _, h.2⟩)))
  go_wp2
  rw [rounds_succ]
  go_wp2
  go_quiet (first | (go_at_call 20; exact (within_no hb _).mono (fun _ _ h => ⟨h.1, _, h.2⟩)))
  go_wp2
  go_ret
  exact ⟨ret_bool (bool_no mayB_iff (by rw [timeB_no] at hb; omega)), (by repeat (first | (with_reducible exact (Below.refl _ _).alloc (Nat.le_refl _) _) | (with_reducible refine below_dr ?_ _)))⟩
set_option maxHeartbeats 4000000 in
theorem rmay_hi_n_z (a b m k : Int) (h : Nat) (on : Bool) (s : Int) (f : Nat) (hf : 3 ≤ f) (hg : f < 256) (ha : timeB a = true) (az : ¬ a = 0) (hb : timeB b = true) (bz : b = 0) (w : World) : Calls Tryd.prog 8 #[ckV a b m k h on s f] w fun e w' => e = .returned (.bool (mayB a b m k h on s f)) ∧ Below w.heap.size w w' := by
  have qf0 : ((f : Int) == 0) = false := by simp; omega
  have qf1 : ((f : Int) == 1) = false := by simp; omega
  have q0 : (a == 0) = false := by simp [az]
  subst bz
  go_enter Tryd.func8, Tryd.ntmps8
  go_wp2
  refine wp_loop_rounds 3 ?_
  rw [rounds_succ]
  go_wp2
  go_quiet (first | (go_at_call 20; exact (within_yes ha _).mono (fun _ _ h => ⟨h.1, _, h.2⟩)))
  go_wp2
  rw [rounds_succ]
  go_wp2
  go_quiet (first | (go_at_call 20; exact (within_yes hb _).mono (fun _ _ h => ⟨h.1, _, h.2⟩)))
  go_wp2
  go_ret
  exact ⟨ret_bool (bool_no mayB_iff (by omega)), (by repeat (first | (with_reducible exact (Below.refl _ _).alloc (Nat.le_refl _) _) | (with_reducible refine below_dr ?_ _)))⟩
set_option maxHeartbeats 4000000 in
theorem rmay_hi_n_n (a b m k : Int) (h : Nat) (on : Bool) (s : Int) (f : Nat) (hf : 3 ≤ f) (hg : f < 256) (ha : timeB a = true) (az : ¬ a = 0) (hb : timeB b = true) (bz : ¬ b = 0) (w : World) : Calls Tryd.prog 8 #[ckV a b m k h on s f] w fun e w' => e = .returned (.bool (mayB a b m k h on s f)) ∧ Below w.heap.size w w' := by
  have hon : on = true ∨ on = false := by cases on <;> simp
  cases on
  all_goals
    have qf0 : ((f : Int) == 0) = false := by simp; omega
    have qf1 : ((f : Int) == 1) = false := by simp; omega
    have q0 : (a == 0) = false := by simp [az]
    have q1 : (b == 0) = false := by simp [bz]
    go_enter Tryd.func8, Tryd.ntmps8
    go_wp2
    refine wp_loop_rounds 3 ?_
    rw [rounds_succ]
    go_wp2
    go_quiet (first | (go_at_call 20; exact (within_yes ha _).mono (fun _ _ h => ⟨h.1, _, h.2⟩)))
    go_wp2
    rw [rounds_succ]
    go_wp2
    go_quiet (first | (go_at_call 20; exact (within_yes hb _).mono (fun _ _ h => ⟨h.1, _, h.2⟩)))
    go_wp2
    rw [rounds_succ]
    go_wp2_with (go_at_call 20; refine (within_any _ _).mono ?_; rintro e w' ⟨rfl, rfl⟩)
    all_goals
      go_ret
      refine ⟨ret_bool ?_, below_dr (by repeat (first | (with_reducible exact (Below.refl _ _).alloc (Nat.le_refl _) _) | (with_reducible refine below_dr ?_ _))) _⟩
      rw [timeB_iff] at ha hb; (try clear q0); (try clear q1)
      try simp only [timeB_iff, timeB_no, Bool.not_eq_true, Bool.not_eq_false, Bool.not_eq_true', Bool.not_eq_false', beq_iff_eq, bne_iff_ne, beq_eq_false_iff_ne, bne_eq_false_iff_eq, ne_eq] at *
    all_goals
      first
      | (refine bool_no mayB_iff ?_; simp only [reduceCtorEq, or_true, or_false, and_true, true_and, and_false, false_and, iff_true, iff_false, true_iff, false_iff, not_false_eq_true, true_or, false_or] <;> omega)
      | (refine bool_yes mayB_iff ?_; simp only [reduceCtorEq, or_true, or_false, and_true, true_and, and_false, false_and, iff_true, iff_false, true_iff, false_iff, not_false_eq_true, true_or, false_or] <;> omega)
      | (rcases Bool.eq_false_or_eq_true (timeB s) with hs | hs <;> rw [hs] <;> first | (rw [timeB_iff] at hs; refine bool_yes mayB_iff ?_; simp only [reduceCtorEq, or_true, or_false, and_true, true_and, and_false, false_and, iff_true, iff_false, true_iff, false_iff, not_false_eq_true, true_or, false_or] <;> omega) | (rw [timeB_no] at hs; refine bool_no mayB_iff ?_; simp only [reduceCtorEq, or_true, or_false, and_true, true_and, and_false, false_and, iff_true, iff_false, true_iff, false_iff, not_false_eq_true, true_or, false_or] <;> omega))

theorem rmay_any (a b m k : Int) (h : Nat) (on : Bool) (s : Int) (f : Nat) (hg : f < 256) (w : World) : Calls Tryd.prog 8 #[ckV a b m k h on s f] w fun e w' => e = .returned (.bool (mayB a b m k h on s f)) ∧ Below w.heap.size w w' := by
  rcases Bool.eq_false_or_eq_true (timeB a) with ha | ha
  rotate_left
  · exact rmay_aTime a b m k h on s f ha w
  obtain rfl | rfl | rfl | hf : f = 0 ∨ f = 1 ∨ f = 2 ∨ 3 ≤ f := by omega
  all_goals by_cases az : a = 0
  · rcases Bool.eq_false_or_eq_true (timeB b) with hb | hb
    · by_cases bz : b = 0
      · exact rmay_0_z_z a b m k h on s ha az hb bz w
      · exact rmay_0_z_n a b m k h on s ha az hb bz w
    · exact rmay_0_z_t a b m k h on s ha az hb w
  · exact rmay_0_n a b m k h on s ha az w
  · exact rmay_1_z a b m k h on s ha az w
  · rcases Bool.eq_false_or_eq_true (timeB b) with hb | hb
    · by_cases bz : b = 0
      · exact rmay_1_n_z a b m k h on s ha az hb bz w
      · exact rmay_1_n_n a b m k h on s ha az hb bz w
    · exact rmay_1_n_t a b m k h on s ha az hb w
  · exact rmay_2_z a b m k h on s ha az w
  · rcases Bool.eq_false_or_eq_true (timeB b) with hb | hb
    · by_cases bz : b = 0
      · exact rmay_2_n_z a b m k h on s ha az hb bz w
      · exact rmay_2_n_n a b m k h on s ha az hb bz w
    · exact rmay_2_n_t a b m k h on s ha az hb w
  · exact rmay_hi_z a b m k h on s f hf hg ha az w
  · rcases Bool.eq_false_or_eq_true (timeB b) with hb | hb
    · by_cases bz : b = 0
      · exact rmay_hi_n_z a b m k h on s f hf hg ha az hb bz w
      · exact rmay_hi_n_n a b m k h on s f hf hg ha az hb bz w
    · exact rmay_hi_n_t a b m k h on s f hf hg ha az hb w
end Go.Proofs.YtcemekianoehfaaDoor
