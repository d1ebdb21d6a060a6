/- Layer 28 (clock): a clock, plain; what each function answers. -/
import Derived.Test.YtcemekianoehfaaDoorTbBase
namespace Go.Proofs.YtcemekianoehfaaDoor
open Go.RowKit Go.Lib

/-- A clock in eight cells. -/
abbrev ckV (a b m k : Int) (h : Nat) (on : Bool) (s : Int) (f : Nat) : Value := .agg #[.int .i64 a, .int .i64 b, .int .i64 m, .int .i64 k, .int .u8 h, .bool on, .int .i64 s, .int .u8 f]
/-- Such a clock's block. -/
abbrev ckO (a b m k : Int) (h : Nat) (on : Bool) (s : Int) (f : Nat) : Obj := .cells #[.int .i64 a, .int .i64 b, .int .i64 m, .int .i64 k, .int .u8 h, .bool on, .int .i64 s, .int .u8 f] 24

def timeB (n : Int) : Bool := decide (0 ≤ n) && decide (n ≤ 1073741824)
theorem timeB_iff {n : Int} : timeB n = true ↔ 0 ≤ n ∧ n ≤ 1073741824 := by simp [timeB]
def mayB (a b m k : Int) (h : Nat) (on : Bool) (s : Int) (f : Nat) : Bool :=
  timeB a && timeB b && ((a == 0) == (f == 0)) && ((b == 0) == (f == 1)) && timeB m && timeB k && decide (h ≤ 1) && timeB s && decide (f ≤ 2) && (decide (f = 2) || !on)
theorem timeB_no {n : Int} : timeB n = false ↔ n < 0 ∨ 1073741824 < n := by
  rw [← Bool.not_eq_true, timeB_iff]; omega
theorem same_iff {p q : Prop} [Decidable p] [Decidable q] : (decide p == decide q) = true ↔ (p ↔ q) := by
  by_cases hp : p <;> by_cases hq : q <;> simp [hp, hq]
theorem mayB_iff {a b m k s : Int} {h f : Nat} {on : Bool} : mayB a b m k h on s f = true ↔ (0 ≤ a ∧ a ≤ 1073741824) ∧ (0 ≤ b ∧ b ≤ 1073741824) ∧ (a = 0 ↔ f = 0) ∧ (b = 0 ↔ f = 1) ∧ (0 ≤ m ∧ m ≤ 1073741824) ∧ (0 ≤ k ∧ k ≤ 1073741824) ∧ h ≤ 1 ∧ (0 ≤ s ∧ s ≤ 1073741824) ∧ f ≤ 2 ∧ (f = 2 ∨ on = false) := by
  have e1 : ((a == 0) == (f == 0)) = true ↔ (a = 0 ↔ f = 0) := same_iff
  have e2 : ((b == 0) == (f == 1)) = true ↔ (b = 0 ↔ f = 1) := same_iff
  simp only [mayB, Bool.and_eq_true, e1, e2, timeB_iff, decide_eq_true_eq, Bool.or_eq_true, Bool.not_eq_true', and_assoc]
theorem bool_no {x : Bool} {p : Prop} (h : x = true ↔ p) (n : ¬ p) : false = x := by
  cases x
  · rfl
  · exact absurd (h.1 rfl) n
theorem bool_yes {x : Bool} {p : Prop} (h : x = true ↔ p) (y : p) : true = x := (h.2 y).symm

theorem isTime_any (n : Int) (w : World) : Calls Tryd.prog 21 #[.int .i64 n] w fun e w' => e = .returned (.bool (timeB n)) ∧ w' = w := by
  go_enter Tryd.func21, Tryd.ntmps21
  go_wp2
  all_goals
    go_ret
    exact ⟨ret_bool (by first | exact bool_yes timeB_iff (by omega) | exact bool_no timeB_iff (by omega) | (rw [Bool.eq_iff_iff, timeB_iff, decide_eq_true_iff]; omega)), rfl⟩
theorem within_any (n : Int) (w : World) : Calls Tryd.prog 20 #[.int .i64 n] w fun e w' => e = .returned (.bool (timeB n)) ∧ w' = w := by
  go_enter Tryd.func20, Tryd.ntmps20
  go_wp2
  all_goals
    go_ret
    exact ⟨ret_bool (by first | exact bool_yes timeB_iff (by omega) | exact bool_no timeB_iff (by omega) | (rw [Bool.eq_iff_iff, timeB_iff, decide_eq_true_iff]; omega)), rfl⟩
end Go.Proofs.YtcemekianoehfaaDoor
