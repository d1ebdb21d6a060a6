/- clock.May and the document's: walked. (Made by gen/mkckmay.py.) -/
import Derived.Test.YtcemekianoehfaaDoorCkBase
namespace Go.Proofs.YtcemekianoehfaaDoor
open Go.RowKit Go.Lib

theorem ix0 (a b : Int) (w : World) : (Instr.index 22 (.agg #[.int .i64 a, .int .i64 b]) (.int .i64 0)).run Tryd.prog w = .ok (.int .i64 a) w := by kernel_rfl
theorem ix1 (a b : Int) (w : World) : (Instr.index 22 (.agg #[.int .i64 a, .int .i64 b]) (.int .i64 1)).run Tryd.prog w = .ok (.int .i64 b) w := by kernel_rfl

set_option maxHeartbeats 4000000 in
theorem may_any (a b m k : Int) (h : Nat) (on : Bool) (s : Int) (f : Nat) (w : World) : Calls Tryd.prog 7 #[ckV a b m k h on s f] w fun e w' => e = .returned (.bool (mayB a b m k h on s f)) ∧ Below w.heap.size w w' := by
  have i0 := ix0 a b
  have i1 := ix1 a b
  obtain rfl | rfl | rfl | hf : f = 0 ∨ f = 1 ∨ f = 2 ∨ 3 ≤ f := by omega
  all_goals cases on
  · go_enter Tryd.func7, Tryd.ntmps7
    go_wp2
    any_goals try refine wp_loop_rounds 3 ?_
    any_goals try rw [rounds_succ]
    any_goals try go_wp2_with (go_at_call 21; refine (isTime_any _ _).mono ?_; rintro e w' ⟨rfl, rfl⟩)
    any_goals try rw [rounds_succ]
    any_goals try go_wp2_with (go_at_call 21; refine (isTime_any _ _).mono ?_; rintro e w' ⟨rfl, rfl⟩)
    any_goals try rw [rounds_succ]
    any_goals try go_wp2_with (go_at_call 21; refine (isTime_any _ _).mono ?_; rintro e w' ⟨rfl, rfl⟩)
    all_goals
      go_ret
      refine ⟨ret_bool ?_, (Below.refl _ _).alloc (Nat.le_refl _) _⟩
      clear i0 i1
      try simp only [timeB_iff, timeB_no, Bool.not_eq_true, Bool.not_eq_false, Bool.not_eq_true', Bool.not_eq_false', beq_iff_eq, bne_iff_ne, beq_eq_false_iff_ne, bne_eq_false_iff_eq, ne_eq] at *
    all_goals
      first
      | (refine bool_no mayB_iff ?_; simp only [reduceCtorEq, or_true, or_false, and_true, true_and, and_false, false_and, iff_true, iff_false, true_iff, false_iff, not_false_eq_true, true_or, false_or] <;> omega)
      | (refine bool_yes mayB_iff ?_; simp only [reduceCtorEq, or_true, or_false, and_true, true_and, and_false, false_and, iff_true, iff_false, true_iff, false_iff, not_false_eq_true, true_or, false_or] <;> omega)
      | (rcases Bool.eq_false_or_eq_true (timeB s) with hs | hs <;> rw [hs] <;> first | (rw [timeB_iff] at hs; refine bool_yes mayB_iff ?_; simp only [reduceCtorEq, or_true, or_false, and_true, true_and, and_false, false_and, iff_true, iff_false, true_iff, false_iff, not_false_eq_true, true_or, false_or] <;> omega) | (rw [timeB_no] at hs; refine bool_no mayB_iff ?_; simp only [reduceCtorEq, or_true, or_false, and_true, true_and, and_false, false_and, iff_true, iff_false, true_iff, false_iff, not_false_eq_true, true_or, false_or] <;> omega))
  · go_enter Tryd.func7, Tryd.ntmps7
    go_wp2
    any_goals try refine wp_loop_rounds 3 ?_
    any_goals try rw [rounds_succ]
    any_goals try go_wp2_with (go_at_call 21; refine (isTime_any _ _).mono ?_; rintro e w' ⟨rfl, rfl⟩)
    any_goals try rw [rounds_succ]
    any_goals try go_wp2_with (go_at_call 21; refine (isTime_any _ _).mono ?_; rintro e w' ⟨rfl, rfl⟩)
    any_goals try rw [rounds_succ]
    any_goals try go_wp2_with (go_at_call 21; refine (isTime_any _ _).mono ?_; rintro e w' ⟨rfl, rfl⟩)
    all_goals
      go_ret
      refine ⟨ret_bool ?_, (Below.refl _ _).alloc (Nat.le_refl _) _⟩
      clear i0 i1
      try simp only [timeB_iff, timeB_no, Bool.not_eq_true, Bool.not_eq_false, Bool.not_eq_true', Bool.not_eq_false', beq_iff_eq, bne_iff_ne, beq_eq_false_iff_ne, bne_eq_false_iff_eq, ne_eq] at *
    all_goals
      first
      | (refine bool_no mayB_iff ?_; simp only [reduceCtorEq, or_true, or_false, and_true, true_and, and_false, false_and, iff_true, iff_false, true_iff, false_iff, not_false_eq_true, true_or, false_or] <;> omega)
      | (refine bool_yes mayB_iff ?_; simp only [reduceCtorEq, or_true, or_false, and_true, true_and, and_false, false_and, iff_true, iff_false, true_iff, false_iff, not_false_eq_true, true_or, false_or] <;> omega)
      | (rcases Bool.eq_false_or_eq_true (timeB s) with hs | hs <;> rw [hs] <;> first | (rw [timeB_iff] at hs; refine bool_yes mayB_iff ?_; simp only [reduceCtorEq, or_true, or_false, and_true, true_and, and_false, false_and, iff_true, iff_false, true_iff, false_iff, not_false_eq_true, true_or, false_or] <;> omega) | (rw [timeB_no] at hs; refine bool_no mayB_iff ?_; simp only [reduceCtorEq, or_true, or_false, and_true, true_and, and_false, false_and, iff_true, iff_false, true_iff, false_iff, not_false_eq_true, true_or, false_or] <;> omega))
  · go_enter Tryd.func7, Tryd.ntmps7
    go_wp2
    any_goals try refine wp_loop_rounds 3 ?_
    any_goals try rw [rounds_succ]
    any_goals try go_wp2_with (go_at_call 21; refine (isTime_any _ _).mono ?_; rintro e w' ⟨rfl, rfl⟩)
    any_goals try rw [rounds_succ]
    any_goals try go_wp2_with (go_at_call 21; refine (isTime_any _ _).mono ?_; rintro e w' ⟨rfl, rfl⟩)
    any_goals try rw [rounds_succ]
    any_goals try go_wp2_with (go_at_call 21; refine (isTime_any _ _).mono ?_; rintro e w' ⟨rfl, rfl⟩)
    all_goals
      go_ret
      refine ⟨ret_bool ?_, (Below.refl _ _).alloc (Nat.le_refl _) _⟩
      clear i0 i1
      try simp only [timeB_iff, timeB_no, Bool.not_eq_true, Bool.not_eq_false, Bool.not_eq_true', Bool.not_eq_false', beq_iff_eq, bne_iff_ne, beq_eq_false_iff_ne, bne_eq_false_iff_eq, ne_eq] at *
    all_goals
      first
      | (refine bool_no mayB_iff ?_; simp only [reduceCtorEq, or_true, or_false, and_true, true_and, and_false, false_and, iff_true, iff_false, true_iff, false_iff, not_false_eq_true, true_or, false_or] <;> omega)
      | (refine bool_yes mayB_iff ?_; simp only [reduceCtorEq, or_true, or_false, and_true, true_and, and_false, false_and, iff_true, iff_false, true_iff, false_iff, not_false_eq_true, true_or, false_or] <;> omega)
      | (rcases Bool.eq_false_or_eq_true (timeB s) with hs | hs <;> rw [hs] <;> first | (rw [timeB_iff] at hs; refine bool_yes mayB_iff ?_; simp only [reduceCtorEq, or_true, or_false, and_true, true_and, and_false, false_and, iff_true, iff_false, true_iff, false_iff, not_false_eq_true, true_or, false_or] <;> omega) | (rw [timeB_no] at hs; refine bool_no mayB_iff ?_; simp only [reduceCtorEq, or_true, or_false, and_true, true_and, and_false, false_and, iff_true, iff_false, true_iff, false_iff, not_false_eq_true, true_or, false_or] <;> omega))
  · go_enter Tryd.func7, Tryd.ntmps7
    go_wp2
    any_goals try refine wp_loop_rounds 3 ?_
    any_goals try rw [rounds_succ]
    any_goals try go_wp2_with (go_at_call 21; refine (isTime_any _ _).mono ?_; rintro e w' ⟨rfl, rfl⟩)
    any_goals try rw [rounds_succ]
    any_goals try go_wp2_with (go_at_call 21; refine (isTime_any _ _).mono ?_; rintro e w' ⟨rfl, rfl⟩)
    any_goals try rw [rounds_succ]
    any_goals try go_wp2_with (go_at_call 21; refine (isTime_any _ _).mono ?_; rintro e w' ⟨rfl, rfl⟩)
    all_goals
      go_ret
      refine ⟨ret_bool ?_, (Below.refl _ _).alloc (Nat.le_refl _) _⟩
      clear i0 i1
      try simp only [timeB_iff, timeB_no, Bool.not_eq_true, Bool.not_eq_false, Bool.not_eq_true', Bool.not_eq_false', beq_iff_eq, bne_iff_ne, beq_eq_false_iff_ne, bne_eq_false_iff_eq, ne_eq] at *
    all_goals
      first
      | (refine bool_no mayB_iff ?_; simp only [reduceCtorEq, or_true, or_false, and_true, true_and, and_false, false_and, iff_true, iff_false, true_iff, false_iff, not_false_eq_true, true_or, false_or] <;> omega)
      | (refine bool_yes mayB_iff ?_; simp only [reduceCtorEq, or_true, or_false, and_true, true_and, and_false, false_and, iff_true, iff_false, true_iff, false_iff, not_false_eq_true, true_or, false_or] <;> omega)
      | (rcases Bool.eq_false_or_eq_true (timeB s) with hs | hs <;> rw [hs] <;> first | (rw [timeB_iff] at hs; refine bool_yes mayB_iff ?_; simp only [reduceCtorEq, or_true, or_false, and_true, true_and, and_false, false_and, iff_true, iff_false, true_iff, false_iff, not_false_eq_true, true_or, false_or] <;> omega) | (rw [timeB_no] at hs; refine bool_no mayB_iff ?_; simp only [reduceCtorEq, or_true, or_false, and_true, true_and, and_false, false_and, iff_true, iff_false, true_iff, false_iff, not_false_eq_true, true_or, false_or] <;> omega))
  · go_enter Tryd.func7, Tryd.ntmps7
    go_wp2
    any_goals try refine wp_loop_rounds 3 ?_
    any_goals try rw [rounds_succ]
    any_goals try go_wp2_with (go_at_call 21; refine (isTime_any _ _).mono ?_; rintro e w' ⟨rfl, rfl⟩)
    any_goals try rw [rounds_succ]
    any_goals try go_wp2_with (go_at_call 21; refine (isTime_any _ _).mono ?_; rintro e w' ⟨rfl, rfl⟩)
    any_goals try rw [rounds_succ]
    any_goals try go_wp2_with (go_at_call 21; refine (isTime_any _ _).mono ?_; rintro e w' ⟨rfl, rfl⟩)
    all_goals
      go_ret
      refine ⟨ret_bool ?_, (Below.refl _ _).alloc (Nat.le_refl _) _⟩
      clear i0 i1
      try simp only [timeB_iff, timeB_no, Bool.not_eq_true, Bool.not_eq_false, Bool.not_eq_true', Bool.not_eq_false', beq_iff_eq, bne_iff_ne, beq_eq_false_iff_ne, bne_eq_false_iff_eq, ne_eq] at *
    all_goals
      first
      | (refine bool_no mayB_iff ?_; simp only [reduceCtorEq, or_true, or_false, and_true, true_and, and_false, false_and, iff_true, iff_false, true_iff, false_iff, not_false_eq_true, true_or, false_or] <;> omega)
      | (refine bool_yes mayB_iff ?_; simp only [reduceCtorEq, or_true, or_false, and_true, true_and, and_false, false_and, iff_true, iff_false, true_iff, false_iff, not_false_eq_true, true_or, false_or] <;> omega)
      | (rcases Bool.eq_false_or_eq_true (timeB s) with hs | hs <;> rw [hs] <;> first | (rw [timeB_iff] at hs; refine bool_yes mayB_iff ?_; simp only [reduceCtorEq, or_true, or_false, and_true, true_and, and_false, false_and, iff_true, iff_false, true_iff, false_iff, not_false_eq_true, true_or, false_or] <;> omega) | (rw [timeB_no] at hs; refine bool_no mayB_iff ?_; simp only [reduceCtorEq, or_true, or_false, and_true, true_and, and_false, false_and, iff_true, iff_false, true_iff, false_iff, not_false_eq_true, true_or, false_or] <;> omega))
  · go_enter Tryd.func7, Tryd.ntmps7
    go_wp2
    any_goals try refine wp_loop_rounds 3 ?_
    any_goals try rw [rounds_succ]
    any_goals try go_wp2_with (go_at_call 21; refine (isTime_any _ _).mono ?_; rintro e w' ⟨rfl, rfl⟩)
    any_goals try rw [rounds_succ]
    any_goals try go_wp2_with (go_at_call 21; refine (isTime_any _ _).mono ?_; rintro e w' ⟨rfl, rfl⟩)
    any_goals try rw [rounds_succ]
    any_goals try go_wp2_with (go_at_call 21; refine (isTime_any _ _).mono ?_; rintro e w' ⟨rfl, rfl⟩)
    all_goals
      go_ret
      refine ⟨ret_bool ?_, (Below.refl _ _).alloc (Nat.le_refl _) _⟩
      clear i0 i1
      try simp only [timeB_iff, timeB_no, Bool.not_eq_true, Bool.not_eq_false, Bool.not_eq_true', Bool.not_eq_false', beq_iff_eq, bne_iff_ne, beq_eq_false_iff_ne, bne_eq_false_iff_eq, ne_eq] at *
    all_goals
      first
      | (refine bool_no mayB_iff ?_; simp only [reduceCtorEq, or_true, or_false, and_true, true_and, and_false, false_and, iff_true, iff_false, true_iff, false_iff, not_false_eq_true, true_or, false_or] <;> omega)
      | (refine bool_yes mayB_iff ?_; simp only [reduceCtorEq, or_true, or_false, and_true, true_and, and_false, false_and, iff_true, iff_false, true_iff, false_iff, not_false_eq_true, true_or, false_or] <;> omega)
      | (rcases Bool.eq_false_or_eq_true (timeB s) with hs | hs <;> rw [hs] <;> first | (rw [timeB_iff] at hs; refine bool_yes mayB_iff ?_; simp only [reduceCtorEq, or_true, or_false, and_true, true_and, and_false, false_and, iff_true, iff_false, true_iff, false_iff, not_false_eq_true, true_or, false_or] <;> omega) | (rw [timeB_no] at hs; refine bool_no mayB_iff ?_; simp only [reduceCtorEq, or_true, or_false, and_true, true_and, and_false, false_and, iff_true, iff_false, true_iff, false_iff, not_false_eq_true, true_or, false_or] <;> omega))
  · go_enter Tryd.func7, Tryd.ntmps7
    go_wp2
    any_goals try refine wp_loop_rounds 3 ?_
    any_goals try rw [rounds_succ]
    any_goals try go_wp2_with (go_at_call 21; refine (isTime_any _ _).mono ?_; rintro e w' ⟨rfl, rfl⟩)
    any_goals try rw [rounds_succ]
    any_goals try go_wp2_with (go_at_call 21; refine (isTime_any _ _).mono ?_; rintro e w' ⟨rfl, rfl⟩)
    any_goals try rw [rounds_succ]
    any_goals try go_wp2_with (go_at_call 21; refine (isTime_any _ _).mono ?_; rintro e w' ⟨rfl, rfl⟩)
    all_goals
      go_ret
      refine ⟨ret_bool ?_, (Below.refl _ _).alloc (Nat.le_refl _) _⟩
      clear i0 i1
      try simp only [timeB_iff, timeB_no, Bool.not_eq_true, Bool.not_eq_false, Bool.not_eq_true', Bool.not_eq_false', beq_iff_eq, bne_iff_ne, beq_eq_false_iff_ne, bne_eq_false_iff_eq, ne_eq] at *
    all_goals
      first
      | (refine bool_no mayB_iff ?_; simp only [reduceCtorEq, or_true, or_false, and_true, true_and, and_false, false_and, iff_true, iff_false, true_iff, false_iff, not_false_eq_true, true_or, false_or] <;> omega)
      | (refine bool_yes mayB_iff ?_; simp only [reduceCtorEq, or_true, or_false, and_true, true_and, and_false, false_and, iff_true, iff_false, true_iff, false_iff, not_false_eq_true, true_or, false_or] <;> omega)
      | (rcases Bool.eq_false_or_eq_true (timeB s) with hs | hs <;> rw [hs] <;> first | (rw [timeB_iff] at hs; refine bool_yes mayB_iff ?_; simp only [reduceCtorEq, or_true, or_false, and_true, true_and, and_false, false_and, iff_true, iff_false, true_iff, false_iff, not_false_eq_true, true_or, false_or] <;> omega) | (rw [timeB_no] at hs; refine bool_no mayB_iff ?_; simp only [reduceCtorEq, or_true, or_false, and_true, true_and, and_false, false_and, iff_true, iff_false, true_iff, false_iff, not_false_eq_true, true_or, false_or] <;> omega))
  · go_enter Tryd.func7, Tryd.ntmps7
    go_wp2
    any_goals try refine wp_loop_rounds 3 ?_
    any_goals try rw [rounds_succ]
    any_goals try go_wp2_with (go_at_call 21; refine (isTime_any _ _).mono ?_; rintro e w' ⟨rfl, rfl⟩)
    any_goals try rw [rounds_succ]
    any_goals try go_wp2_with (go_at_call 21; refine (isTime_any _ _).mono ?_; rintro e w' ⟨rfl, rfl⟩)
    any_goals try rw [rounds_succ]
    any_goals try go_wp2_with (go_at_call 21; refine (isTime_any _ _).mono ?_; rintro e w' ⟨rfl, rfl⟩)
    all_goals
      go_ret
      refine ⟨ret_bool ?_, (Below.refl _ _).alloc (Nat.le_refl _) _⟩
      clear i0 i1
      try simp only [timeB_iff, timeB_no, Bool.not_eq_true, Bool.not_eq_false, Bool.not_eq_true', Bool.not_eq_false', beq_iff_eq, bne_iff_ne, beq_eq_false_iff_ne, bne_eq_false_iff_eq, ne_eq] at *
    all_goals
      first
      | (refine bool_no mayB_iff ?_; simp only [reduceCtorEq, or_true, or_false, and_true, true_and, and_false, false_and, iff_true, iff_false, true_iff, false_iff, not_false_eq_true, true_or, false_or] <;> omega)
      | (refine bool_yes mayB_iff ?_; simp only [reduceCtorEq, or_true, or_false, and_true, true_and, and_false, false_and, iff_true, iff_false, true_iff, false_iff, not_false_eq_true, true_or, false_or] <;> omega)
      | (rcases Bool.eq_false_or_eq_true (timeB s) with hs | hs <;> rw [hs] <;> first | (rw [timeB_iff] at hs; refine bool_yes mayB_iff ?_; simp only [reduceCtorEq, or_true, or_false, and_true, true_and, and_false, false_and, iff_true, iff_false, true_iff, false_iff, not_false_eq_true, true_or, false_or] <;> omega) | (rw [timeB_no] at hs; refine bool_no mayB_iff ?_; simp only [reduceCtorEq, or_true, or_false, and_true, true_and, and_false, false_and, iff_true, iff_false, true_iff, false_iff, not_false_eq_true, true_or, false_or] <;> omega))
end Go.Proofs.YtcemekianoehfaaDoor
