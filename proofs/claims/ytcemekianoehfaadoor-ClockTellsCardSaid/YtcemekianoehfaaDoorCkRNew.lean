/- joustref28.New: walked. (Made by gen/mkck.py.) -/
import Derived.Test.YtcemekianoehfaaDoorCkNew
namespace Go.Proofs.YtcemekianoehfaaDoor
open Go.RowKit Go.Lib Go.Sort

set_option maxHeartbeats 4000000 in
set_option maxRecDepth 100000 in
theorem rnew_a (x y z : Int) (hx : x < 1) (w : World) : Calls Tryd.prog 6 #[.int .i64 x, .int .i64 y, .int .i64 z] w fun e w' => e = .returned (.tuple #[ckV 0 0 0 0 0 false 0 0, .int .i64 2]) ∧ Below w.heap.size w w' := by
  have HZ2 : Hid ((w.alloc (.cells #[.int .i64 0, .int .i64 0, .int .i64 0, .int .i64 0, .int .u8 0, .bool false, .int .i64 0, .int .u8 0] 24)).heap[w.heap.size]? = some (.cells #[.int .i64 0, .int .i64 0, .int .i64 0, .int .i64 0, .int .u8 0, .bool false, .int .i64 0, .int .u8 0] 24 (0, 0))) := Lib.hid (heap_alloc_new _ _)
  have HB2 : Hid (Below w.heap.size w (w.alloc (.cells #[.int .i64 0, .int .i64 0, .int .i64 0, .int .i64 0, .int .u8 0, .bool false, .int .i64 0, .int .u8 0] 24))) := Lib.hid (box_below _ _)
  go_enter Tryd.func6, Tryd.ntmps6
  go_wp2_with (go_at_call 20; refine (within_any _ _).mono ?_; rintro e w9 ⟨rfl, rfl⟩)
  exact bodyPost_ret (v := .tuple #[ckV 0 0 0 0 0 false 0 0, .int .i64 2]) (by simp [results, Tryd.results6, go_sem]) rfl ⟨rfl, (by repeat (first | (with_reducible exact box_below _ _) | (with_reducible exact HB2.out) | ((with_reducible refine Below.setCell ?_ ?_ _); rotate_left; focus (simp; done))))⟩

set_option maxHeartbeats 4000000 in
set_option maxRecDepth 100000 in
theorem rnew_b (x y z : Int) (hx : 1 ≤ x) (h1 : timeB x = false) (w : World) : Calls Tryd.prog 6 #[.int .i64 x, .int .i64 y, .int .i64 z] w fun e w' => e = .returned (.tuple #[ckV 0 0 0 0 0 false 0 0, .int .i64 2]) ∧ Below w.heap.size w w' := by
  have HZ2 : Hid ((w.alloc (.cells #[.int .i64 0, .int .i64 0, .int .i64 0, .int .i64 0, .int .u8 0, .bool false, .int .i64 0, .int .u8 0] 24)).heap[w.heap.size]? = some (.cells #[.int .i64 0, .int .i64 0, .int .i64 0, .int .i64 0, .int .u8 0, .bool false, .int .i64 0, .int .u8 0] 24 (0, 0))) := Lib.hid (heap_alloc_new _ _)
  have HB2 : Hid (Below w.heap.size w (w.alloc (.cells #[.int .i64 0, .int .i64 0, .int .i64 0, .int .i64 0, .int .u8 0, .bool false, .int .i64 0, .int .u8 0] 24))) := Lib.hid (box_below _ _)
  go_enter Tryd.func6, Tryd.ntmps6
  go_wp2_with (go_at_call 20; refine (within_any _ _).mono ?_; rintro e w9 ⟨rfl, rfl⟩)
  exact bodyPost_ret (v := .tuple #[ckV 0 0 0 0 0 false 0 0, .int .i64 2]) (by simp [results, Tryd.results6, go_sem]) rfl ⟨rfl, (by repeat (first | (with_reducible exact box_below _ _) | (with_reducible exact HB2.out) | ((with_reducible refine Below.setCell ?_ ?_ _); rotate_left; focus (simp; done))))⟩

set_option maxHeartbeats 4000000 in
set_option maxRecDepth 100000 in
theorem rnew_c (x y z : Int) (hx : 1 ≤ x) (h1 : timeB x = true) (h2 : timeB y = false) (w : World) : Calls Tryd.prog 6 #[.int .i64 x, .int .i64 y, .int .i64 z] w fun e w' => e = .returned (.tuple #[ckV 0 0 0 0 0 false 0 0, .int .i64 2]) ∧ Below w.heap.size w w' := by
  have HZ2 : Hid ((w.alloc (.cells #[.int .i64 0, .int .i64 0, .int .i64 0, .int .i64 0, .int .u8 0, .bool false, .int .i64 0, .int .u8 0] 24)).heap[w.heap.size]? = some (.cells #[.int .i64 0, .int .i64 0, .int .i64 0, .int .i64 0, .int .u8 0, .bool false, .int .i64 0, .int .u8 0] 24 (0, 0))) := Lib.hid (heap_alloc_new _ _)
  have HB2 : Hid (Below w.heap.size w (w.alloc (.cells #[.int .i64 0, .int .i64 0, .int .i64 0, .int .i64 0, .int .u8 0, .bool false, .int .i64 0, .int .u8 0] 24))) := Lib.hid (box_below _ _)
  go_enter Tryd.func6, Tryd.ntmps6
  go_wp2_with (go_at_call 20; refine (within_any _ _).mono ?_; rintro e w9 ⟨rfl, rfl⟩)
  exact bodyPost_ret (v := .tuple #[ckV 0 0 0 0 0 false 0 0, .int .i64 2]) (by simp [results, Tryd.results6, go_sem]) rfl ⟨rfl, (by repeat (first | (with_reducible exact box_below _ _) | (with_reducible exact HB2.out) | ((with_reducible refine Below.setCell ?_ ?_ _); rotate_left; focus (simp; done))))⟩

set_option maxHeartbeats 4000000 in
set_option maxRecDepth 100000 in
theorem rnew_d (x y z : Int) (hx : 1 ≤ x) (h1 : timeB x = true) (h2 : timeB y = true) (h3 : timeB z = false) (w : World) : Calls Tryd.prog 6 #[.int .i64 x, .int .i64 y, .int .i64 z] w fun e w' => e = .returned (.tuple #[ckV 0 0 0 0 0 false 0 0, .int .i64 2]) ∧ Below w.heap.size w w' := by
  have HZ2 : Hid ((w.alloc (.cells #[.int .i64 0, .int .i64 0, .int .i64 0, .int .i64 0, .int .u8 0, .bool false, .int .i64 0, .int .u8 0] 24)).heap[w.heap.size]? = some (.cells #[.int .i64 0, .int .i64 0, .int .i64 0, .int .i64 0, .int .u8 0, .bool false, .int .i64 0, .int .u8 0] 24 (0, 0))) := Lib.hid (heap_alloc_new _ _)
  have HB2 : Hid (Below w.heap.size w (w.alloc (.cells #[.int .i64 0, .int .i64 0, .int .i64 0, .int .i64 0, .int .u8 0, .bool false, .int .i64 0, .int .u8 0] 24))) := Lib.hid (box_below _ _)
  go_enter Tryd.func6, Tryd.ntmps6
  go_wp2_with (go_at_call 20; refine (within_any _ _).mono ?_; rintro e w9 ⟨rfl, rfl⟩)
  exact bodyPost_ret (v := .tuple #[ckV 0 0 0 0 0 false 0 0, .int .i64 2]) (by simp [results, Tryd.results6, go_sem]) rfl ⟨rfl, (by repeat (first | (with_reducible exact box_below _ _) | (with_reducible exact HB2.out) | ((with_reducible refine Below.setCell ?_ ?_ _); rotate_left; focus (simp; done))))⟩

set_option maxHeartbeats 4000000 in
set_option maxRecDepth 100000 in
theorem rnew_e (x y z : Int) (hx : 1 ≤ x) (h1 : timeB x = true) (h2 : timeB y = true) (h3 : timeB z = true) (w : World) : Calls Tryd.prog 6 #[.int .i64 x, .int .i64 y, .int .i64 z] w fun e w' => e = .returned (.tuple #[ckV x x y z 0 false 0 2, .int .i64 0]) ∧ Below w.heap.size w w' := by
  have HZ2 : Hid ((w.alloc (.cells #[.int .i64 0, .int .i64 0, .int .i64 0, .int .i64 0, .int .u8 0, .bool false, .int .i64 0, .int .u8 0] 24)).heap[w.heap.size]? = some (.cells #[.int .i64 0, .int .i64 0, .int .i64 0, .int .i64 0, .int .u8 0, .bool false, .int .i64 0, .int .u8 0] 24 (0, 0))) := Lib.hid (heap_alloc_new _ _)
  have HB2 : Hid (Below w.heap.size w (w.alloc (.cells #[.int .i64 0, .int .i64 0, .int .i64 0, .int .i64 0, .int .u8 0, .bool false, .int .i64 0, .int .u8 0] 24))) := Lib.hid (box_below _ _)
  go_enter Tryd.func6, Tryd.ntmps6
  go_wp2_with (go_at_call 20; refine (within_any _ _).mono ?_; rintro e w9 ⟨rfl, rfl⟩)
  exact bodyPost_ret (v := .tuple #[ckV x x y z 0 false 0 2, .int .i64 0]) (by simp [results, Tryd.results6, go_sem]) rfl ⟨rfl, (by repeat (first | (with_reducible exact box_below _ _) | (with_reducible exact HB2.out) | ((with_reducible refine Below.setCell ?_ ?_ _); rotate_left; focus (simp; done))))⟩

theorem rnew_any (x y z : Int) (w : World) : Calls Tryd.prog 6 #[.int .i64 x, .int .i64 y, .int .i64 z] w fun e w' => e = .returned (.tuple #[(newC x y z).1.val, .int .i64 (newC x y z).2]) ∧ Below w.heap.size w w' := by
  unfold newC
  by_cases hx : 1 ≤ x
  · cases h1 : timeB x
    · rw [if_neg (by simp [newB, h1])]; exact rnew_b x y z hx h1 w
    cases h2 : timeB y
    · rw [if_neg (by simp [newB, h2])]; exact rnew_c x y z hx h1 h2 w
    cases h3 : timeB z
    · rw [if_neg (by simp [newB, h3])]; exact rnew_d x y z hx h1 h2 h3 w
    · rw [if_pos (by simp [newB, h1, h2, h3, hx])]; exact rnew_e x y z hx h1 h2 h3 w
  · rw [if_neg (by simp [newB, hx])]; exact rnew_a x y z (by omega) w
end Go.Proofs.YtcemekianoehfaaDoor
