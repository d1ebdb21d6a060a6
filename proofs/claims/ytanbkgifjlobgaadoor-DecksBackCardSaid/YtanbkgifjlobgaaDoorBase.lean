/- Small functions of layer 1 (scan): what each call answers. -/
import Derived.Test.YtanbkgifjlobgaaDoorRows
import Derived.WalkKit
import Derived.WalkSpells
import Derived.WalkLawsBesides
import Derived.Deep.QuietTactic
import Derived.BigQuiet
import Derived.Lib.Hide
namespace Go.Proofs.YtanbkgifjlobgaaDoor
open Go.RowKit

def digB (r : Int) : Bool := decide (48 ≤ r) && decide (r ≤ 57)
def blankB (r : Int) : Bool := decide (r = 32) || decide (r = 9) || decide (r = 13) || decide (r = 10)

theorem ret_bool {a b : Bool} (h : a = b) : Ending.returned (.bool a) = .returned (.bool b) := by rw [h]

set_option maxHeartbeats 400000 in
theorem digit_any (r : Int) (w : World) :
    Calls Tryd.prog 46 #[.int .i32 r] w fun e w' => e = .returned (.bool (digB r)) ∧ w = w' := by
  by_cases h1 : (48 : Int) ≤ r <;> by_cases h2 : r ≤ 57
  all_goals
    go_enter Tryd.func46, Tryd.ntmps46
    go_wp2
    go_ret
    exact ⟨ret_bool (by simp [digB, h1, h2]), rfl⟩

theorem digit_yes (r : Int) (w : World) (h : digB r = true) :
    Calls Tryd.prog 46 #[.int .i32 r] w fun e w' => e = .returned (.bool true) ∧ w = w' := by
  rw [← h]; exact digit_any r w
theorem digit_no (r : Int) (w : World) (h : digB r = false) :
    Calls Tryd.prog 46 #[.int .i32 r] w fun e w' => e = .returned (.bool false) ∧ w = w' := by
  rw [← h]; exact digit_any r w

set_option maxHeartbeats 400000 in
theorem blank_any (r : Int) (w : World) :
    Calls Tryd.prog 25 #[.int .i32 r] w fun e w' => e = .returned (.bool (blankB r)) ∧ w = w' := by
  by_cases h1 : r = 32
  · subst h1
    go_enter Tryd.func25, Tryd.ntmps25
    go_wp2
    go_ret
    exact ⟨ret_bool (by rfl), rfl⟩
  by_cases h2 : r = 9
  · subst h2
    go_enter Tryd.func25, Tryd.ntmps25
    go_wp2
    go_ret
    exact ⟨ret_bool (by rfl), rfl⟩
  by_cases h3 : r = 13
  · subst h3
    go_enter Tryd.func25, Tryd.ntmps25
    go_wp2
    go_ret
    exact ⟨ret_bool (by rfl), rfl⟩
  by_cases h4 : r = 10
  · subst h4
    go_enter Tryd.func25, Tryd.ntmps25
    go_wp2
    go_ret
    exact ⟨ret_bool (by rfl), rfl⟩
  · have e1 : (r == 32) = false := by simpa using h1
    have e2 : (r == 9) = false := by simpa using h2
    have e3 : (r == 13) = false := by simpa using h3
    have e4 : (r == 10) = false := by simpa using h4
    have e : blankB r = false := by simp [blankB, h1, h2, h3, h4]
    clear h1 h2 h3 h4
    have E := Lib.hid e
    clear e
    go_enter Tryd.func25, Tryd.ntmps25
    go_wp2
    go_ret
    exact ⟨ret_bool (by rw [E.out]), rfl⟩

def spotV (p : Int × Int) : Value := .agg #[.int .i64 p.1, .int .i64 p.2]
def nextP (p : Int × Int) (r : Int) : Int × Int := if r = 10 then (p.1 + 1, 1) else (p.1, p.2 + 1)

set_option maxHeartbeats 400000 in
theorem beginning_any (w : World) :
    Calls Tryd.prog 23 #[] w fun e w' => e = .returned (.agg #[.int .i64 1, .int .i64 1]) ∧ Below w.heap.size w w' := by
  go_enter Tryd.func23, Tryd.ntmps23
  go_wp2
  refine bodyPost_ret (v := .agg #[.int .i64 1, .int .i64 1]) (by simp [results, Tryd.results23, go_sem]) rfl ⟨rfl, ?_⟩
  exact (Below.refl _ _).alloc (Nat.le_refl _) _

set_option maxHeartbeats 400000 in
theorem next_any (l c r : Int) (w : World) (hl0 : 0 ≤ l) (hl : l ≤ 4611686018427387904) (hc0 : 0 ≤ c) (hc : c ≤ 4611686018427387904) :
    Calls Tryd.prog 28 #[.agg #[.int .i64 l, .int .i64 c], .int .i32 r] w fun e w' => e = .returned (.agg #[.int .i64 (nextP (l, c) r).1, .int .i64 (nextP (l, c) r).2]) ∧ Below w.heap.size w w' := by
  by_cases h : r = 10
  · subst h
    go_enter Tryd.func28, Tryd.ntmps28
    go_wp2
    refine bodyPost_ret (v := .agg #[.int .i64 (l + 1), .int .i64 1]) (by simp [results, Tryd.results28, go_sem]) rfl ⟨rfl, ?_⟩
    exact ((Below.refl _ _).alloc (Nat.le_refl _) _).alloc (by simp) _
  · have e : (r == 10) = false := by simpa using h
    have E : Hid (nextP (l, c) r = (l, c + 1)) := by simp [nextP, h, Hid]
    clear h
    go_enter Tryd.func28, Tryd.ntmps28
    go_wp2
    rw [E.out]
    refine bodyPost_ret (v := .agg #[.int .i64 l, .int .i64 (c + 1)]) (by simp [results, Tryd.results28, go_sem]) rfl ⟨rfl, ?_⟩
    exact ((Below.refl _ _).alloc (Nat.le_refl _) _).alloc (by simp) _
end Go.Proofs.YtanbkgifjlobgaaDoor
