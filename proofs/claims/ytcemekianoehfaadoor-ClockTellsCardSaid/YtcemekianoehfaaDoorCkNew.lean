/- clock.New: walked. (Made by gen/mkck.py.) -/
import Derived.Test.YtcemekianoehfaaDoorCkStart
namespace Go.Proofs.YtcemekianoehfaaDoor
open Go.RowKit Go.Lib Go.Sort


def newB (x y z : Int) : Bool := decide (1 ≤ x) && timeB x && timeB y && timeB z
def newC (x y z : Int) : Ck × Int := if newB x y z = true then (⟨x, x, y, z, 0, false, 0, 2⟩, 0) else (.zero, 2)
theorem new_may (x y z : Int) : mayB x x y z 0 false 0 2 = newB x y z := by
  rw [Bool.eq_iff_iff, mayB_iff]
  simp only [newB, Bool.and_eq_true, timeB_iff, decide_eq_true_eq, and_assoc]
  constructor
  · intro h; omega
  · intro h; simp only [or_false, true_and, and_true, true_or, or_true]; omega
set_option maxHeartbeats 4000000 in
set_option maxRecDepth 100000 in
theorem new_no (x y z : Int) (hq : newB x y z = false) (w : World) : Calls Tryd.prog 5 #[.int .i64 x, .int .i64 y, .int .i64 z] w fun e w' => e = .returned (.tuple #[ckV 0 0 0 0 0 false 0 0, .int .i64 2]) ∧ Below w.heap.size w w' := by
  have hcm := fun W => may_any x x y z 0 false 0 2 W
  rw [new_may, hq] at hcm
  have CM := Lib.hid hcm
  clear hcm
  obtain ⟨w0, hw0⟩ : ∃ w0, w0 = (w.alloc (.cells #[.int .i64 0, .int .i64 0, .int .i64 0, .int .i64 0, .int .u8 0, .bool false, .int .i64 0, .int .u8 0] 24)).alloc (.cells #[.int .i64 x, .int .i64 x, .int .i64 y, .int .i64 z, .int .u8 0, .bool false, .int .i64 0, .int .u8 2] 24) := ⟨_, rfl⟩
  have HZ0 : Hid (w0.heap[w.heap.size]? = some (.cells #[.int .i64 0, .int .i64 0, .int .i64 0, .int .i64 0, .int .u8 0, .bool false, .int .i64 0, .int .u8 0] 24 (0, 0))) := Lib.hid (by rw [hw0]; exact heap_older (heap_alloc_new _ _))
  have HX0 : Hid (w0.heap[w.heap.size + 1]? = some (.cells #[.int .i64 x, .int .i64 x, .int .i64 y, .int .i64 z, .int .u8 0, .bool false, .int .i64 0, .int .u8 2] 24 (0, 0))) := Lib.hid (by rw [hw0]; exact heap_newer _ _ _ (by simp))
  have HB0 : Hid (Below w.heap.size w w0) := Lib.hid (by rw [hw0]; exact (box_below _ _).alloc (by simp) _)
  have HW0 := Lib.hid hw0
  clear hw0
  go_enter Tryd.func5, Tryd.ntmps5
  go_wp2_with fail
  refine (CM.out _).mono ?_
  rintro e w2 ⟨rfl, hb2⟩
  rw [← HW0.out] at hb2
  have HX2 := Lib.hid ((hb2.block _ (heap_lt HX0.out)).trans HX0.out)
  have HZ2 := Lib.hid ((hb2.block _ (heap_lt HZ0.out)).trans HZ0.out)
  have HB2 := Lib.hid (HB0.out.trans (hb2.mono HB0.out.size))
  clear hb2
  have x0 := cell_blk (i := 0) HX2.out
  have x1 := cell_blk (i := 1) HX2.out
  have x2 := cell_blk (i := 2) HX2.out
  have x3 := cell_blk (i := 3) HX2.out
  have x4 := cell_blk (i := 4) HX2.out
  have x5 := cell_blk (i := 5) HX2.out
  have x6 := cell_blk (i := 6) HX2.out
  have x7 := cell_blk (i := 7) HX2.out
  simp [ckO] at x0 x1 x2 x3 x4 x5 x6 x7
  have xf0 := free_blk (i := 0) HX2.out
  have xf1 := free_blk (i := 1) HX2.out
  have xf2 := free_blk (i := 2) HX2.out
  have xf3 := free_blk (i := 3) HX2.out
  have xf4 := free_blk (i := 4) HX2.out
  have xf5 := free_blk (i := 5) HX2.out
  have xf6 := free_blk (i := 6) HX2.out
  have xf7 := free_blk (i := 7) HX2.out
  have z0 := cell_blk (i := 0) HZ2.out
  have z1 := cell_blk (i := 1) HZ2.out
  have z2 := cell_blk (i := 2) HZ2.out
  have z3 := cell_blk (i := 3) HZ2.out
  have z4 := cell_blk (i := 4) HZ2.out
  have z5 := cell_blk (i := 5) HZ2.out
  have z6 := cell_blk (i := 6) HZ2.out
  have z7 := cell_blk (i := 7) HZ2.out
  simp [ckO] at z0 z1 z2 z3 z4 z5 z6 z7
  have zf0 := free_blk (i := 0) HZ2.out
  have zf1 := free_blk (i := 1) HZ2.out
  have zf2 := free_blk (i := 2) HZ2.out
  have zf3 := free_blk (i := 3) HZ2.out
  have zf4 := free_blk (i := 4) HZ2.out
  have zf5 := free_blk (i := 5) HZ2.out
  have zf6 := free_blk (i := 6) HZ2.out
  have zf7 := free_blk (i := 7) HZ2.out
  go_wp2
  exact bodyPost_ret (v := .tuple #[ckV 0 0 0 0 0 false 0 0, .int .i64 2]) (by simp [results, Tryd.results5, go_sem, z0, z1, z2, z3, z4, z5, z6, z7, zf0, zf1, zf2, zf3, zf4, zf5, zf6, zf7, x0, x1, x2, x3, x4, x5, x6, x7]) rfl ⟨rfl, (by repeat (first | (with_reducible exact HB2.out) | ((with_reducible refine Below.setCell ?_ ?_ _); rotate_left; focus (simp; done)) | (with_reducible refine below_dr ?_ _) | (with_reducible refine Below.drew ?_)))⟩

set_option maxHeartbeats 4000000 in
set_option maxRecDepth 100000 in
theorem new_ok (x y z : Int) (hq : newB x y z = true) (w : World) : Calls Tryd.prog 5 #[.int .i64 x, .int .i64 y, .int .i64 z] w fun e w' => e = .returned (.tuple #[ckV x x y z 0 false 0 2, .int .i64 0]) ∧ Below w.heap.size w w' := by
  have hcm := fun W => may_any x x y z 0 false 0 2 W
  rw [new_may, hq] at hcm
  have CM := Lib.hid hcm
  clear hcm
  obtain ⟨w0, hw0⟩ : ∃ w0, w0 = (w.alloc (.cells #[.int .i64 0, .int .i64 0, .int .i64 0, .int .i64 0, .int .u8 0, .bool false, .int .i64 0, .int .u8 0] 24)).alloc (.cells #[.int .i64 x, .int .i64 x, .int .i64 y, .int .i64 z, .int .u8 0, .bool false, .int .i64 0, .int .u8 2] 24) := ⟨_, rfl⟩
  have HZ0 : Hid (w0.heap[w.heap.size]? = some (.cells #[.int .i64 0, .int .i64 0, .int .i64 0, .int .i64 0, .int .u8 0, .bool false, .int .i64 0, .int .u8 0] 24 (0, 0))) := Lib.hid (by rw [hw0]; exact heap_older (heap_alloc_new _ _))
  have HX0 : Hid (w0.heap[w.heap.size + 1]? = some (.cells #[.int .i64 x, .int .i64 x, .int .i64 y, .int .i64 z, .int .u8 0, .bool false, .int .i64 0, .int .u8 2] 24 (0, 0))) := Lib.hid (by rw [hw0]; exact heap_newer _ _ _ (by simp))
  have HB0 : Hid (Below w.heap.size w w0) := Lib.hid (by rw [hw0]; exact (box_below _ _).alloc (by simp) _)
  have HW0 := Lib.hid hw0
  clear hw0
  go_enter Tryd.func5, Tryd.ntmps5
  go_wp2_with fail
  refine (CM.out _).mono ?_
  rintro e w2 ⟨rfl, hb2⟩
  rw [← HW0.out] at hb2
  have HX2 := Lib.hid ((hb2.block _ (heap_lt HX0.out)).trans HX0.out)
  have HZ2 := Lib.hid ((hb2.block _ (heap_lt HZ0.out)).trans HZ0.out)
  have HB2 := Lib.hid (HB0.out.trans (hb2.mono HB0.out.size))
  clear hb2
  have x0 := cell_blk (i := 0) HX2.out
  have x1 := cell_blk (i := 1) HX2.out
  have x2 := cell_blk (i := 2) HX2.out
  have x3 := cell_blk (i := 3) HX2.out
  have x4 := cell_blk (i := 4) HX2.out
  have x5 := cell_blk (i := 5) HX2.out
  have x6 := cell_blk (i := 6) HX2.out
  have x7 := cell_blk (i := 7) HX2.out
  simp [ckO] at x0 x1 x2 x3 x4 x5 x6 x7
  have xf0 := free_blk (i := 0) HX2.out
  have xf1 := free_blk (i := 1) HX2.out
  have xf2 := free_blk (i := 2) HX2.out
  have xf3 := free_blk (i := 3) HX2.out
  have xf4 := free_blk (i := 4) HX2.out
  have xf5 := free_blk (i := 5) HX2.out
  have xf6 := free_blk (i := 6) HX2.out
  have xf7 := free_blk (i := 7) HX2.out
  have z0 := cell_blk (i := 0) HZ2.out
  have z1 := cell_blk (i := 1) HZ2.out
  have z2 := cell_blk (i := 2) HZ2.out
  have z3 := cell_blk (i := 3) HZ2.out
  have z4 := cell_blk (i := 4) HZ2.out
  have z5 := cell_blk (i := 5) HZ2.out
  have z6 := cell_blk (i := 6) HZ2.out
  have z7 := cell_blk (i := 7) HZ2.out
  simp [ckO] at z0 z1 z2 z3 z4 z5 z6 z7
  have zf0 := free_blk (i := 0) HZ2.out
  have zf1 := free_blk (i := 1) HZ2.out
  have zf2 := free_blk (i := 2) HZ2.out
  have zf3 := free_blk (i := 3) HZ2.out
  have zf4 := free_blk (i := 4) HZ2.out
  have zf5 := free_blk (i := 5) HZ2.out
  have zf6 := free_blk (i := 6) HZ2.out
  have zf7 := free_blk (i := 7) HZ2.out
  go_wp2
  exact bodyPost_ret (v := .tuple #[ckV x x y z 0 false 0 2, .int .i64 0]) (by simp [results, Tryd.results5, go_sem, z0, z1, z2, z3, z4, z5, z6, z7, zf0, zf1, zf2, zf3, zf4, zf5, zf6, zf7, x0, x1, x2, x3, x4, x5, x6, x7]) rfl ⟨rfl, (by repeat (first | (with_reducible exact HB2.out) | ((with_reducible refine Below.setCell ?_ ?_ _); rotate_left; focus (simp; done)) | (with_reducible refine below_dr ?_ _) | (with_reducible refine Below.drew ?_)))⟩

theorem new_any (x y z : Int) (w : World) : Calls Tryd.prog 5 #[.int .i64 x, .int .i64 y, .int .i64 z] w fun e w' => e = .returned (.tuple #[(newC x y z).1.val, .int .i64 (newC x y z).2]) ∧ Below w.heap.size w w' := by
  unfold newC
  cases hq : newB x y z
  · rw [if_neg (by simp)]
    exact new_no x y z hq w
  · rw [if_pos rfl]
    exact new_ok x y z hq w
end Go.Proofs.YtcemekianoehfaaDoor
