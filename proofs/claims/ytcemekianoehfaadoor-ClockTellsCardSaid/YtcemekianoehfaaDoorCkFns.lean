/- clock.used, longest, falls, filled, mayAt, and asked: walked. (Made by gen/mkck.py.) -/
import Derived.Test.YtcemekianoehfaaDoorCkMay
import Derived.Test.YtcemekianoehfaaDoorCkRMay
import Derived.Lib.QuietBelow
import Derived.WalkLawsBesides
import Derived.RegionTactic
namespace Go.Proofs.YtcemekianoehfaaDoor
open Go.RowKit Go.Lib Go.Sort

def lftI (a b : Int) (h : Nat) : Int := if h = 0 then a else b
def longI (a b k : Int) (h : Nat) : Int := if 0 < k then min (lftI a b h) k else lftI a b h
def fallB (a b k : Int) (h : Nat) (on : Bool) (s n : Int) : Bool := on && decide (longI a b k h < n - s)
def askB (a b m k : Int) (h : Nat) (on : Bool) (s : Int) (f : Nat) (n : Int) : Bool := mayB a b m k h on s f && timeB n && decide (s ≤ n)
def fillI (x m : Int) : Int := max (min x (1073741824 - m) + m) 1

theorem box_cell (w : World) (cs : Array Value) (t : TypeId) (i : Nat) : (w.alloc (.cells cs t)).cell? ⟨w.heap.size, i, none⟩ = cs[i]? := cell_blk (heap_alloc_new _ _)
theorem box_below (w : World) (o : Obj) : Below w.heap.size w (w.alloc o) := (Below.refl _ _).alloc (Nat.le_refl _) _

theorem used_any (a b m k : Int) (h : Nat) (on : Bool) (s : Int) (f : Nat) (n : Int) (hs : 0 ≤ s) (hn : s ≤ n) (hT : n ≤ 1073741824) (w : World) : Calls Tryd.prog 29 #[ckV a b m k h on s f, .int .i64 n] w fun e w' => e = .returned (.int .i64 (n - s)) ∧ Below w.heap.size w w' := by
  go_enter Tryd.func29, Tryd.ntmps29
  go_wp2
  go_ret
  exact ⟨rfl, box_below _ _⟩

theorem filled_any (x m : Int) (hx : -1073741824 ≤ x) (hx' : x ≤ 1073741824) (hm : 0 ≤ m) (hm' : m ≤ 1073741824) (w : World) : Calls Tryd.prog 28 #[.int .i64 x, .int .i64 m] w fun e w' => e = .returned (.int .i64 (fillI x m)) ∧ w' = w := by
  go_enter Tryd.func28, Tryd.ntmps28
  go_wp2
  all_goals
    go_ret
    exact ⟨ret_int (by unfold fillI; omega), rfl⟩

set_option maxHeartbeats 1000000 in
theorem longest_0 (a b m k : Int) (on : Bool) (s : Int) (f : Nat) (w : World) : Calls Tryd.prog 31 #[ckV a b m k 0 on s f] w fun e w' => e = .returned (.int .i64 (longI a b k 0)) ∧ Below w.heap.size w w' := by
  by_cases hk : 0 < k
  · have HL := Lib.hid (show longI a b k 0 = min a k from if_pos hk)
    go_enter Tryd.func31, Tryd.ntmps31
    go_wp2
    go_quiet (fail)
    go_wp2
    all_goals
      go_ret
      exact ⟨ret_int (by rw [HL.out]; omega), below_dr (box_below _ _) _⟩
  · have HL := Lib.hid (show longI a b k 0 = a from if_neg hk)
    go_enter Tryd.func31, Tryd.ntmps31
    go_wp2
    all_goals
      go_ret
      exact ⟨ret_int (by rw [HL.out]), box_below _ _⟩
set_option maxHeartbeats 1000000 in
theorem longest_1 (a b m k : Int) (on : Bool) (s : Int) (f : Nat) (w : World) : Calls Tryd.prog 31 #[ckV a b m k 1 on s f] w fun e w' => e = .returned (.int .i64 (longI a b k 1)) ∧ Below w.heap.size w w' := by
  by_cases hk : 0 < k
  · have HL := Lib.hid (show longI a b k 1 = min b k from if_pos hk)
    go_enter Tryd.func31, Tryd.ntmps31
    go_wp2
    go_quiet (fail)
    go_wp2
    all_goals
      go_ret
      exact ⟨ret_int (by rw [HL.out]; omega), below_dr (box_below _ _) _⟩
  · have HL := Lib.hid (show longI a b k 1 = b from if_neg hk)
    go_enter Tryd.func31, Tryd.ntmps31
    go_wp2
    all_goals
      go_ret
      exact ⟨ret_int (by rw [HL.out]), box_below _ _⟩

/-- A block's cell, however much is laid behind it. -/
theorem far_cell {w1 : World} {g : Nat} {cs : Array Value} {t : TypeId} (hb : w1.heap[g]? = some (.cells cs t (0, 0))) (i : Nat) {v : Value} (hv : cs[i]? = some v) (d : Nat) (os : Array Obj) : (grow (redrawn w1 d) os).cell? ⟨g, i, none⟩ = some v :=
  cell_regrown (by rw [cell_blk hb]; exact hv) _ _


theorem far_below (w : World) (o : Obj) (d : Nat) (os : Array Obj) : Below w.heap.size w (grow (redrawn (w.alloc o) d) os) := (box_below w o).trans ((below_regrown _ _ _).mono (by simp))
set_option maxHeartbeats 4000000 in
set_option maxRecDepth 100000 in
theorem falls_on0 (a b m k : Int) (s : Int) (f : Nat) (n : Int) (hs : 0 ≤ s) (hn : s ≤ n) (hT : n ≤ 1073741824) (w : World) : Calls Tryd.prog 27 #[ckV a b m k 0 true s f, .int .i64 n] w fun e w' => e = .returned (.bool (fallB a b k 0 true s n)) ∧ Below w.heap.size w w' := by
  have hb : (w.alloc (ckO a b m k 0 true s f)).heap[w.heap.size]? = some (ckO a b m k 0 true s f) := heap_alloc_new _ _
  have x0 := far_cell hb 0 rfl
  have x1 := far_cell hb 1 rfl
  have x2 := far_cell hb 2 rfl
  have x3 := far_cell hb 3 rfl
  have x4 := far_cell hb 4 rfl
  have x5 := far_cell hb 5 rfl
  have x6 := far_cell hb 6 rfl
  have x7 := far_cell hb 7 rfl
  simp [ckO] at x0 x1 x2 x3 x4 x5 x6 x7
  have cU := fun W => used_any a b m k 0 true s f n hs hn hT W
  have cL := fun W => longest_0 a b m k true s f W
  clear hb
  go_enter Tryd.func27, Tryd.ntmps27
  go_wp2
  refine wp_region_quiet_below (by kernel_rfl) (by kernel_rfl) ?_
  repeat (quiet_step (first | exact Calls.regrown_of (cU _) | exact Calls.regrown_of (cL _)))
  refine wpQuiet_nil ?_
  intro _ hw'
  obtain ⟨⟨dq, osq⟩, hw''⟩ := hw'
  subst hw''
  go_wp2
  go_ret
  exact ⟨ret_bool (by simp [fallB]), far_below _ _ _ _⟩

set_option maxHeartbeats 4000000 in
set_option maxRecDepth 100000 in
theorem falls_on1 (a b m k : Int) (s : Int) (f : Nat) (n : Int) (hs : 0 ≤ s) (hn : s ≤ n) (hT : n ≤ 1073741824) (w : World) : Calls Tryd.prog 27 #[ckV a b m k 1 true s f, .int .i64 n] w fun e w' => e = .returned (.bool (fallB a b k 1 true s n)) ∧ Below w.heap.size w w' := by
  have hb : (w.alloc (ckO a b m k 1 true s f)).heap[w.heap.size]? = some (ckO a b m k 1 true s f) := heap_alloc_new _ _
  have x0 := far_cell hb 0 rfl
  have x1 := far_cell hb 1 rfl
  have x2 := far_cell hb 2 rfl
  have x3 := far_cell hb 3 rfl
  have x4 := far_cell hb 4 rfl
  have x5 := far_cell hb 5 rfl
  have x6 := far_cell hb 6 rfl
  have x7 := far_cell hb 7 rfl
  simp [ckO] at x0 x1 x2 x3 x4 x5 x6 x7
  have cU := fun W => used_any a b m k 1 true s f n hs hn hT W
  have cL := fun W => longest_1 a b m k true s f W
  clear hb
  go_enter Tryd.func27, Tryd.ntmps27
  go_wp2
  refine wp_region_quiet_below (by kernel_rfl) (by kernel_rfl) ?_
  repeat (quiet_step (first | exact Calls.regrown_of (cU _) | exact Calls.regrown_of (cL _)))
  refine wpQuiet_nil ?_
  intro _ hw'
  obtain ⟨⟨dq, osq⟩, hw''⟩ := hw'
  subst hw''
  go_wp2
  go_ret
  exact ⟨ret_bool (by simp [fallB]), far_below _ _ _ _⟩

set_option maxHeartbeats 4000000 in
set_option maxRecDepth 100000 in
theorem falls_off (a b m k : Int) (h : Nat) (s : Int) (f : Nat) (n : Int) (w : World) : Calls Tryd.prog 27 #[ckV a b m k h false s f, .int .i64 n] w fun e w' => e = .returned (.bool (fallB a b k h false s n)) ∧ Below w.heap.size w w' := by
  have hb : (w.alloc (ckO a b m k h false s f)).heap[w.heap.size]? = some (ckO a b m k h false s f) := heap_alloc_new _ _
  have x0 := far_cell hb 0 rfl
  have x1 := far_cell hb 1 rfl
  have x2 := far_cell hb 2 rfl
  have x3 := far_cell hb 3 rfl
  have x4 := far_cell hb 4 rfl
  have x5 := far_cell hb 5 rfl
  have x6 := far_cell hb 6 rfl
  have x7 := far_cell hb 7 rfl
  simp [ckO] at x0 x1 x2 x3 x4 x5 x6 x7
  clear hb
  go_enter Tryd.func27, Tryd.ntmps27
  go_wp2
  refine wp_region_quiet_below (by kernel_rfl) (by kernel_rfl) ?_
  repeat (quiet_step (first | fail))
  refine wpQuiet_nil ?_
  intro _ hw'
  obtain ⟨⟨dq, osq⟩, hw''⟩ := hw'
  subst hw''
  go_wp2
  go_ret
  exact ⟨ret_bool (by simp [fallB]), far_below _ _ _ _⟩

set_option maxHeartbeats 4000000 in
set_option maxRecDepth 100000 in
theorem ask_any (a b m k : Int) (h : Nat) (on : Bool) (s : Int) (f : Nat) (n : Int) (w : World) : Calls Tryd.prog 25 #[ckV a b m k h on s f, .int .i64 n] w fun e w' => e = .returned (.bool (askB a b m k h on s f n)) ∧ Below w.heap.size w w' := by
  have hb : (w.alloc (ckO a b m k h on s f)).heap[w.heap.size]? = some (ckO a b m k h on s f) := heap_alloc_new _ _
  have HB := Lib.hid hb
  clear hb
  go_enter Tryd.func25, Tryd.ntmps25
  go_wp2_with (first | (go_at_call 7; (with_reducible refine (may_any a b m k h on s f _).mono ?_); rintro e w2 ⟨rfl, hb2⟩; have HB2 := Lib.hid ((hb2.block _ (heap_lt HB.out)).trans HB.out); have HL2 := Lib.hid hb2; clear hb2; have x6 := cell_blk (i := 6) HB2.out; simp [ckO] at x6) | (go_at_call 21; (with_reducible refine (isTime_any _ _).mono ?_); rintro e w3 ⟨rfl, rfl⟩))
  all_goals
    go_ret
    exact ⟨ret_bool (by simp_all [askB]), (box_below _ _).trans (HL2.out.mono (by simp))⟩

set_option maxHeartbeats 4000000 in
set_option maxRecDepth 100000 in
theorem rask_any (a b m k : Int) (h : Nat) (on : Bool) (s : Int) (f : Nat) (hg : f < 256) (n : Int) (w : World) : Calls Tryd.prog 26 #[ckV a b m k h on s f, .int .i64 n] w fun e w' => e = .returned (.bool (askB a b m k h on s f n)) ∧ Below w.heap.size w w' := by
  have hb : (w.alloc (ckO a b m k h on s f)).heap[w.heap.size]? = some (ckO a b m k h on s f) := heap_alloc_new _ _
  have HB := Lib.hid hb
  clear hb
  go_enter Tryd.func26, Tryd.ntmps26
  go_wp2_with (first | (go_at_call 8; (with_reducible refine (rmay_any a b m k h on s f hg _).mono ?_); rintro e w2 ⟨rfl, hb2⟩; have HB2 := Lib.hid ((hb2.block _ (heap_lt HB.out)).trans HB.out); have HL2 := Lib.hid hb2; clear hb2; have x6 := cell_blk (i := 6) HB2.out; simp [ckO] at x6) | (go_at_call 20; (with_reducible refine (within_any _ _).mono ?_); rintro e w3 ⟨rfl, rfl⟩))
  all_goals
    go_ret
    exact ⟨ret_bool (by simp_all [askB]), (box_below _ _).trans (HL2.out.mono (by simp))⟩

end Go.Proofs.YtcemekianoehfaaDoor
