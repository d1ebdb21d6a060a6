/- clock.When: walked. (Made by gen/mkck.py.) -/
import Derived.Test.YtcemekianoehfaaDoorCkStopA
namespace Go.Proofs.YtcemekianoehfaaDoor
open Go.RowKit Go.Lib Go.Sort


def whenC (a b m k : Int) (h : Nat) (on : Bool) (s : Int) (f : Nat) : Int × Bool :=
  if mayB a b m k h on s f = true ∧ on = true ∧ longI a b k h < 1073741824 - s then (s + longI a b k h + 1, true) else (0, false)
theorem long_bd {a b k : Int} {h : Nat} (ha : 0 ≤ a ∧ a ≤ 1073741824) (hb : 0 ≤ b ∧ b ≤ 1073741824) (hk : 0 ≤ k ∧ k ≤ 1073741824) : 0 ≤ longI a b k h ∧ longI a b k h ≤ 1073741824 := by
  unfold longI lftI
  repeat' split
  all_goals omega
theorem may_bd {a b m k s : Int} {h f : Nat} {on : Bool} (hm : mayB a b m k h on s f = true) : (0 ≤ a ∧ a ≤ 1073741824) ∧ (0 ≤ b ∧ b ≤ 1073741824) ∧ (a = 0 ↔ f = 0) ∧ (b = 0 ↔ f = 1) ∧ (0 ≤ m ∧ m ≤ 1073741824) ∧ (0 ≤ k ∧ k ≤ 1073741824) ∧ h ≤ 1 ∧ (0 ≤ s ∧ s ≤ 1073741824) ∧ f ≤ 2 ∧ (f = 2 ∨ on = false) := mayB_iff.1 hm
set_option maxHeartbeats 4000000 in
set_option maxRecDepth 100000 in
theorem when_no (a b m k : Int) (h : Nat) (on : Bool) (s : Int) (f : Nat) (hm : mayB a b m k h on s f = false) (w : World) : Calls Tryd.prog 17 #[ckV a b m k h on s f] w fun e w' => e = .returned (.tuple #[.int .i64 0, .bool false]) ∧ Below w.heap.size w w' := by
  have hcm := fun W => may_any a b m k h on s f W
  rw [hm] at hcm
  have CM := Lib.hid hcm
  clear hcm
  have hbx : (w.alloc (.cells #[.int .i64 a, .int .i64 b, .int .i64 m, .int .i64 k, .int .u8 h, .bool on, .int .i64 s, .int .u8 f] 24)).heap[w.heap.size]? = some (.cells #[.int .i64 a, .int .i64 b, .int .i64 m, .int .i64 k, .int .u8 h, .bool on, .int .i64 s, .int .u8 f] 24 (0, 0)) := heap_alloc_new _ _
  have x0 := far_cell hbx 0 rfl
  have x1 := far_cell hbx 1 rfl
  have x2 := far_cell hbx 2 rfl
  have x3 := far_cell hbx 3 rfl
  have x4 := far_cell hbx 4 rfl
  have x5 := far_cell hbx 5 rfl
  have x6 := far_cell hbx 6 rfl
  have x7 := far_cell hbx 7 rfl
  simp [ckO] at x0 x1 x2 x3 x4 x5 x6 x7
  clear hbx
  go_enter Tryd.func17, Tryd.ntmps17
  go_wp2
  refine wp_region_quiet_below (by kernel_rfl) (by kernel_rfl) ?_
  repeat (quiet_step (first | (go_at_call 7; exact Calls.regrown_of (CM.out _))))
  refine wpQuiet_nil ?_
  intro _ hw'
  obtain ⟨⟨dq, osq⟩, hw''⟩ := hw'
  subst hw''
  go_wp2
  go_ret2
  exact ⟨rfl, far_below _ _ _ _⟩

set_option maxHeartbeats 4000000 in
set_option maxRecDepth 100000 in
theorem when_off (a b m k : Int) (h : Nat) (s : Int) (f : Nat) (hm : mayB a b m k h false s f = true) (w : World) : Calls Tryd.prog 17 #[ckV a b m k h false s f] w fun e w' => e = .returned (.tuple #[.int .i64 0, .bool false]) ∧ Below w.heap.size w w' := by
  have hcm := fun W => may_any a b m k h false s f W
  rw [hm] at hcm
  have CM := Lib.hid hcm
  clear hcm
  have hbx : (w.alloc (.cells #[.int .i64 a, .int .i64 b, .int .i64 m, .int .i64 k, .int .u8 h, .bool false, .int .i64 s, .int .u8 f] 24)).heap[w.heap.size]? = some (.cells #[.int .i64 a, .int .i64 b, .int .i64 m, .int .i64 k, .int .u8 h, .bool false, .int .i64 s, .int .u8 f] 24 (0, 0)) := heap_alloc_new _ _
  have x0 := far_cell hbx 0 rfl
  have x1 := far_cell hbx 1 rfl
  have x2 := far_cell hbx 2 rfl
  have x3 := far_cell hbx 3 rfl
  have x4 := far_cell hbx 4 rfl
  have x5 := far_cell hbx 5 rfl
  have x6 := far_cell hbx 6 rfl
  have x7 := far_cell hbx 7 rfl
  simp [ckO] at x0 x1 x2 x3 x4 x5 x6 x7
  clear hbx
  go_enter Tryd.func17, Tryd.ntmps17
  go_wp2
  refine wp_region_quiet_below (by kernel_rfl) (by kernel_rfl) ?_
  repeat (quiet_step (first | (go_at_call 7; exact Calls.regrown_of (CM.out _))))
  refine wpQuiet_nil ?_
  intro _ hw'
  obtain ⟨⟨dq, osq⟩, hw''⟩ := hw'
  subst hw''
  go_wp2
  go_ret2
  exact ⟨rfl, far_below _ _ _ _⟩

set_option maxHeartbeats 4000000 in
set_option maxRecDepth 100000 in
theorem when_late0 (a b m k s : Int) (hm : mayB a b m k 0 true s 2 = true) (hl : 1073741824 - s ≤ longI a b k 0) (w : World) : Calls Tryd.prog 17 #[ckV a b m k 0 true s 2] w fun e w' => e = .returned (.tuple #[.int .i64 0, .bool false]) ∧ Below w.heap.size w w' := by
  have hcm := fun W => may_any a b m k 0 true s 2 W
  rw [hm] at hcm
  have CM := Lib.hid hcm
  clear hcm
  obtain ⟨ha, hb, -, -, -, hk, -, hs, -, -⟩ := may_bd hm
  have hlb := long_bd (h := 0) ha hb hk
  have CL := Lib.hid (fun W => longest_0 a b m k true s 2 W)
  clear hm
  generalize longI a b k 0 = L at *
  have e1 : IntKind.i64.wrap (1073741824 - s) = 1073741824 - s := IntWalk.i64_in _ (by omega)
  have e4 : decide (1073741824 - s ≤ L) = true := decide_eq_true hl
  have hbx : (w.alloc (.cells #[.int .i64 a, .int .i64 b, .int .i64 m, .int .i64 k, .int .u8 0, .bool true, .int .i64 s, .int .u8 2] 24)).heap[w.heap.size]? = some (.cells #[.int .i64 a, .int .i64 b, .int .i64 m, .int .i64 k, .int .u8 0, .bool true, .int .i64 s, .int .u8 2] 24 (0, 0)) := heap_alloc_new _ _
  have x0 := far_cell hbx 0 rfl
  have x1 := far_cell hbx 1 rfl
  have x2 := far_cell hbx 2 rfl
  have x3 := far_cell hbx 3 rfl
  have x4 := far_cell hbx 4 rfl
  have x5 := far_cell hbx 5 rfl
  have x6 := far_cell hbx 6 rfl
  have x7 := far_cell hbx 7 rfl
  simp [ckO] at x0 x1 x2 x3 x4 x5 x6 x7
  clear hbx
  go_enter Tryd.func17, Tryd.ntmps17
  go_wp2
  refine wp_region_quiet_below (by kernel_rfl) (by kernel_rfl) ?_
  repeat (quiet_step (first | (go_at_call 7; exact Calls.regrown_of (CM.out _)) | (go_at_call 31; exact Calls.regrown_of (CL.out _))))
  refine wpQuiet_nil ?_
  intro _ hw'
  obtain ⟨⟨dq, osq⟩, hw''⟩ := hw'
  subst hw''
  go_wp2
  go_ret2
  exact ⟨rfl, far_below _ _ _ _⟩

set_option maxHeartbeats 4000000 in
set_option maxRecDepth 100000 in
theorem when_ok0 (a b m k s : Int) (hm : mayB a b m k 0 true s 2 = true) (hl : longI a b k 0 < 1073741824 - s) (w : World) : Calls Tryd.prog 17 #[ckV a b m k 0 true s 2] w fun e w' => e = .returned (.tuple #[.int .i64 (s + longI a b k 0 + 1), .bool true]) ∧ Below w.heap.size w w' := by
  have hcm := fun W => may_any a b m k 0 true s 2 W
  rw [hm] at hcm
  have CM := Lib.hid hcm
  clear hcm
  obtain ⟨ha, hb, -, -, -, hk, -, hs, -, -⟩ := may_bd hm
  have hlb := long_bd (h := 0) ha hb hk
  have CL := Lib.hid (fun W => longest_0 a b m k true s 2 W)
  clear hm
  generalize longI a b k 0 = L at *
  have e1 : IntKind.i64.wrap (1073741824 - s) = 1073741824 - s := IntWalk.i64_in _ (by omega)
  have e2 : IntKind.i64.wrap (s + L) = s + L := IntWalk.i64_in _ (by omega)
  have e3 : IntKind.i64.wrap (s + L + 1) = s + L + 1 := IntWalk.i64_in _ (by omega)
  have e4 : decide (1073741824 - s ≤ L) = false := decide_eq_false (by omega)
  have hbx : (w.alloc (.cells #[.int .i64 a, .int .i64 b, .int .i64 m, .int .i64 k, .int .u8 0, .bool true, .int .i64 s, .int .u8 2] 24)).heap[w.heap.size]? = some (.cells #[.int .i64 a, .int .i64 b, .int .i64 m, .int .i64 k, .int .u8 0, .bool true, .int .i64 s, .int .u8 2] 24 (0, 0)) := heap_alloc_new _ _
  have x0 := far_cell hbx 0 rfl
  have x1 := far_cell hbx 1 rfl
  have x2 := far_cell hbx 2 rfl
  have x3 := far_cell hbx 3 rfl
  have x4 := far_cell hbx 4 rfl
  have x5 := far_cell hbx 5 rfl
  have x6 := far_cell hbx 6 rfl
  have x7 := far_cell hbx 7 rfl
  simp [ckO] at x0 x1 x2 x3 x4 x5 x6 x7
  clear hbx
  go_enter Tryd.func17, Tryd.ntmps17
  go_wp2
  refine wp_region_quiet_below (by kernel_rfl) (by kernel_rfl) ?_
  repeat (quiet_step (first | (go_at_call 7; exact Calls.regrown_of (CM.out _)) | (go_at_call 31; exact Calls.regrown_of (CL.out _))))
  refine wpQuiet_nil ?_
  intro _ hw'
  obtain ⟨⟨dq, osq⟩, hw''⟩ := hw'
  subst hw''
  go_wp2
  obtain ⟨w5, hw5⟩ : ∃ w5, w5 = grow (redrawn (w.alloc (.cells #[.int .i64 a, .int .i64 b, .int .i64 m, .int .i64 k, .int .u8 0, .bool true, .int .i64 s, .int .u8 2] 24)) dq) osq := ⟨_, rfl⟩
  rw [← hw5]
  have HX5 := Lib.hid (show w5.heap[w.heap.size]? = some (.cells #[.int .i64 a, .int .i64 b, .int .i64 m, .int .i64 k, .int .u8 0, .bool true, .int .i64 s, .int .u8 2] 24 (0, 0)) by rw [hw5]; exact ((below_regrown _ _ _).block _ (heap_lt (heap_alloc_new _ _))).trans (heap_alloc_new _ _))
  have HB5 := Lib.hid (show Below w.heap.size w w5 by rw [hw5]; exact far_below _ _ _ _)
  clear hw5
  clear x0 x1 x2 x3 x4 x5 x6 x7
  have x0 := far_cell HX5.out 0 rfl
  have x1 := far_cell HX5.out 1 rfl
  have x2 := far_cell HX5.out 2 rfl
  have x3 := far_cell HX5.out 3 rfl
  have x4 := far_cell HX5.out 4 rfl
  have x5 := far_cell HX5.out 5 rfl
  have x6 := far_cell HX5.out 6 rfl
  have x7 := far_cell HX5.out 7 rfl
  simp [ckO] at x0 x1 x2 x3 x4 x5 x6 x7
  refine wp_region_quiet_below (by kernel_rfl) (by kernel_rfl) ?_
  repeat (quiet_step (first | (go_at_call 31; exact Calls.regrown_of (CL.out _))))
  refine wpQuiet_nil ?_
  intro _ hw'
  obtain ⟨⟨dq, osq⟩, hw''⟩ := hw'
  subst hw''
  go_wp2
  go_ret2
  exact ⟨by first | rfl | (simp only [e2, e3]; rfl), HB5.out.trans ((below_regrown _ _ _).mono HB5.out.size)⟩

set_option maxHeartbeats 4000000 in
set_option maxRecDepth 100000 in
theorem when_late1 (a b m k s : Int) (hm : mayB a b m k 1 true s 2 = true) (hl : 1073741824 - s ≤ longI a b k 1) (w : World) : Calls Tryd.prog 17 #[ckV a b m k 1 true s 2] w fun e w' => e = .returned (.tuple #[.int .i64 0, .bool false]) ∧ Below w.heap.size w w' := by
  have hcm := fun W => may_any a b m k 1 true s 2 W
  rw [hm] at hcm
  have CM := Lib.hid hcm
  clear hcm
  obtain ⟨ha, hb, -, -, -, hk, -, hs, -, -⟩ := may_bd hm
  have hlb := long_bd (h := 1) ha hb hk
  have CL := Lib.hid (fun W => longest_1 a b m k true s 2 W)
  clear hm
  generalize longI a b k 1 = L at *
  have e1 : IntKind.i64.wrap (1073741824 - s) = 1073741824 - s := IntWalk.i64_in _ (by omega)
  have e4 : decide (1073741824 - s ≤ L) = true := decide_eq_true hl
  have hbx : (w.alloc (.cells #[.int .i64 a, .int .i64 b, .int .i64 m, .int .i64 k, .int .u8 1, .bool true, .int .i64 s, .int .u8 2] 24)).heap[w.heap.size]? = some (.cells #[.int .i64 a, .int .i64 b, .int .i64 m, .int .i64 k, .int .u8 1, .bool true, .int .i64 s, .int .u8 2] 24 (0, 0)) := heap_alloc_new _ _
  have x0 := far_cell hbx 0 rfl
  have x1 := far_cell hbx 1 rfl
  have x2 := far_cell hbx 2 rfl
  have x3 := far_cell hbx 3 rfl
  have x4 := far_cell hbx 4 rfl
  have x5 := far_cell hbx 5 rfl
  have x6 := far_cell hbx 6 rfl
  have x7 := far_cell hbx 7 rfl
  simp [ckO] at x0 x1 x2 x3 x4 x5 x6 x7
  clear hbx
  go_enter Tryd.func17, Tryd.ntmps17
  go_wp2
  refine wp_region_quiet_below (by kernel_rfl) (by kernel_rfl) ?_
  repeat (quiet_step (first | (go_at_call 7; exact Calls.regrown_of (CM.out _)) | (go_at_call 31; exact Calls.regrown_of (CL.out _))))
  refine wpQuiet_nil ?_
  intro _ hw'
  obtain ⟨⟨dq, osq⟩, hw''⟩ := hw'
  subst hw''
  go_wp2
  go_ret2
  exact ⟨rfl, far_below _ _ _ _⟩

set_option maxHeartbeats 4000000 in
set_option maxRecDepth 100000 in
theorem when_ok1 (a b m k s : Int) (hm : mayB a b m k 1 true s 2 = true) (hl : longI a b k 1 < 1073741824 - s) (w : World) : Calls Tryd.prog 17 #[ckV a b m k 1 true s 2] w fun e w' => e = .returned (.tuple #[.int .i64 (s + longI a b k 1 + 1), .bool true]) ∧ Below w.heap.size w w' := by
  have hcm := fun W => may_any a b m k 1 true s 2 W
  rw [hm] at hcm
  have CM := Lib.hid hcm
  clear hcm
  obtain ⟨ha, hb, -, -, -, hk, -, hs, -, -⟩ := may_bd hm
  have hlb := long_bd (h := 1) ha hb hk
  have CL := Lib.hid (fun W => longest_1 a b m k true s 2 W)
  clear hm
  generalize longI a b k 1 = L at *
  have e1 : IntKind.i64.wrap (1073741824 - s) = 1073741824 - s := IntWalk.i64_in _ (by omega)
  have e2 : IntKind.i64.wrap (s + L) = s + L := IntWalk.i64_in _ (by omega)
  have e3 : IntKind.i64.wrap (s + L + 1) = s + L + 1 := IntWalk.i64_in _ (by omega)
  have e4 : decide (1073741824 - s ≤ L) = false := decide_eq_false (by omega)
  have hbx : (w.alloc (.cells #[.int .i64 a, .int .i64 b, .int .i64 m, .int .i64 k, .int .u8 1, .bool true, .int .i64 s, .int .u8 2] 24)).heap[w.heap.size]? = some (.cells #[.int .i64 a, .int .i64 b, .int .i64 m, .int .i64 k, .int .u8 1, .bool true, .int .i64 s, .int .u8 2] 24 (0, 0)) := heap_alloc_new _ _
  have x0 := far_cell hbx 0 rfl
  have x1 := far_cell hbx 1 rfl
  have x2 := far_cell hbx 2 rfl
  have x3 := far_cell hbx 3 rfl
  have x4 := far_cell hbx 4 rfl
  have x5 := far_cell hbx 5 rfl
  have x6 := far_cell hbx 6 rfl
  have x7 := far_cell hbx 7 rfl
  simp [ckO] at x0 x1 x2 x3 x4 x5 x6 x7
  clear hbx
  go_enter Tryd.func17, Tryd.ntmps17
  go_wp2
  refine wp_region_quiet_below (by kernel_rfl) (by kernel_rfl) ?_
  repeat (quiet_step (first | (go_at_call 7; exact Calls.regrown_of (CM.out _)) | (go_at_call 31; exact Calls.regrown_of (CL.out _))))
  refine wpQuiet_nil ?_
  intro _ hw'
  obtain ⟨⟨dq, osq⟩, hw''⟩ := hw'
  subst hw''
  go_wp2
  obtain ⟨w5, hw5⟩ : ∃ w5, w5 = grow (redrawn (w.alloc (.cells #[.int .i64 a, .int .i64 b, .int .i64 m, .int .i64 k, .int .u8 1, .bool true, .int .i64 s, .int .u8 2] 24)) dq) osq := ⟨_, rfl⟩
  rw [← hw5]
  have HX5 := Lib.hid (show w5.heap[w.heap.size]? = some (.cells #[.int .i64 a, .int .i64 b, .int .i64 m, .int .i64 k, .int .u8 1, .bool true, .int .i64 s, .int .u8 2] 24 (0, 0)) by rw [hw5]; exact ((below_regrown _ _ _).block _ (heap_lt (heap_alloc_new _ _))).trans (heap_alloc_new _ _))
  have HB5 := Lib.hid (show Below w.heap.size w w5 by rw [hw5]; exact far_below _ _ _ _)
  clear hw5
  clear x0 x1 x2 x3 x4 x5 x6 x7
  have x0 := far_cell HX5.out 0 rfl
  have x1 := far_cell HX5.out 1 rfl
  have x2 := far_cell HX5.out 2 rfl
  have x3 := far_cell HX5.out 3 rfl
  have x4 := far_cell HX5.out 4 rfl
  have x5 := far_cell HX5.out 5 rfl
  have x6 := far_cell HX5.out 6 rfl
  have x7 := far_cell HX5.out 7 rfl
  simp [ckO] at x0 x1 x2 x3 x4 x5 x6 x7
  refine wp_region_quiet_below (by kernel_rfl) (by kernel_rfl) ?_
  repeat (quiet_step (first | (go_at_call 31; exact Calls.regrown_of (CL.out _))))
  refine wpQuiet_nil ?_
  intro _ hw'
  obtain ⟨⟨dq, osq⟩, hw''⟩ := hw'
  subst hw''
  go_wp2
  go_ret2
  exact ⟨by first | rfl | (simp only [e2, e3]; rfl), HB5.out.trans ((below_regrown _ _ _).mono HB5.out.size)⟩

theorem when_any (a b m k : Int) (h : Nat) (on : Bool) (s : Int) (f : Nat) (w : World) : Calls Tryd.prog 17 #[ckV a b m k h on s f] w fun e w' => e = .returned (.tuple #[.int .i64 (whenC a b m k h on s f).1, .bool (whenC a b m k h on s f).2]) ∧ Below w.heap.size w w' := by
  unfold whenC
  cases hm : mayB a b m k h on s f
  · rw [if_neg (by simp)]
    exact when_no a b m k h on s f hm w
  cases on
  · rw [if_neg (by simp)]
    exact when_off a b m k h s f hm w
  obtain ⟨-, -, -, -, -, -, hh, -, -, hf2⟩ := may_bd hm
  obtain rfl : f = 2 := by
    rcases hf2 with e | e
    · exact e
    · cases e
  obtain rfl | rfl : h = 0 ∨ h = 1 := by omega
  · by_cases hl : longI a b k 0 < 1073741824 - s
    · rw [if_pos ⟨rfl, rfl, hl⟩]
      exact when_ok0 a b m k s hm hl w
    · rw [if_neg (fun x => hl x.2.2)]
      exact when_late0 a b m k s hm (by omega) w
  · by_cases hl : longI a b k 1 < 1073741824 - s
    · rw [if_pos ⟨rfl, rfl, hl⟩]
      exact when_ok1 a b m k s hm hl w
    · rw [if_neg (fun x => hl x.2.2)]
      exact when_late1 a b m k s hm (by omega) w

end Go.Proofs.YtcemekianoehfaaDoor
