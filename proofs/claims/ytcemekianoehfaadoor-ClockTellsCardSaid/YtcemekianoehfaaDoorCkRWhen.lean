/- joustref28.When: walked. (Made by gen/mkck.py.) -/
import Derived.Test.YtcemekianoehfaaDoorCkWhen
namespace Go.Proofs.YtcemekianoehfaaDoor
open Go.RowKit Go.Lib Go.Sort

theorem ret_ib {p q : Int} {c : Bool} (h : p = q) : Ending.returned (.tuple #[.int .i64 p, .bool c]) = .returned (.tuple #[.int .i64 q, .bool c]) := by rw [h]
set_option maxHeartbeats 4000000 in
set_option maxRecDepth 100000 in
theorem rwhen_no (a b m k : Int) (h : Nat) (on : Bool) (s : Int) (f : Nat) (hg : f < 256) (hm : mayB a b m k h on s f = false) (w : World) : Calls Tryd.prog 18 #[ckV a b m k h on s f] w fun e w' => e = .returned (.tuple #[.int .i64 0, .bool false]) ∧ Below w.heap.size w w' := by
  have hcm := fun W => rmay_any a b m k h on s f hg W
  rw [hm] at hcm
  have CM := Lib.hid hcm
  clear hcm
  obtain ⟨w0, hw0⟩ : ∃ w0, w0 = w.alloc (.cells #[.int .i64 a, .int .i64 b, .int .i64 m, .int .i64 k, .int .u8 h, .bool on, .int .i64 s, .int .u8 f] 24) := ⟨_, rfl⟩
  have HX0 : Hid (w0.heap[w.heap.size]? = some (.cells #[.int .i64 a, .int .i64 b, .int .i64 m, .int .i64 k, .int .u8 h, .bool on, .int .i64 s, .int .u8 f] 24 (0, 0))) := Lib.hid (by rw [hw0]; exact heap_alloc_new _ _)
  have HB0 : Hid (Below w.heap.size w w0) := Lib.hid (by rw [hw0]; exact box_below _ _)
  have HW0 := Lib.hid hw0
  clear hw0
  go_enter Tryd.func18, Tryd.ntmps18
  go_wp2_with fail
  refine (CM.out _).mono ?_
  rintro e w1 ⟨rfl, b1⟩
  rw [← HW0.out] at b1
  have HX1 := Lib.hid ((b1.block _ (heap_lt HX0.out)).trans HX0.out)
  have HB1 := Lib.hid (HB0.out.trans (b1.mono HB0.out.size))
  clear b1
  have x0 := cell_blk (i := 0) HX1.out
  have x1 := cell_blk (i := 1) HX1.out
  have x2 := cell_blk (i := 2) HX1.out
  have x3 := cell_blk (i := 3) HX1.out
  have x4 := cell_blk (i := 4) HX1.out
  have x5 := cell_blk (i := 5) HX1.out
  have x6 := cell_blk (i := 6) HX1.out
  have x7 := cell_blk (i := 7) HX1.out
  simp [ckO] at x0 x1 x2 x3 x4 x5 x6 x7
  go_wp2_with fail
  go_ret2
  exact ⟨rfl, HB1.out⟩

set_option maxHeartbeats 4000000 in
set_option maxRecDepth 100000 in
theorem rwhen_off (a b m k : Int) (h : Nat) (s : Int) (f : Nat) (hg : f < 256) (hm : mayB a b m k h false s f = true) (w : World) : Calls Tryd.prog 18 #[ckV a b m k h false s f] w fun e w' => e = .returned (.tuple #[.int .i64 0, .bool false]) ∧ Below w.heap.size w w' := by
  have hcm := fun W => rmay_any a b m k h false s f hg W
  rw [hm] at hcm
  have CM := Lib.hid hcm
  clear hcm
  obtain ⟨w0, hw0⟩ : ∃ w0, w0 = w.alloc (.cells #[.int .i64 a, .int .i64 b, .int .i64 m, .int .i64 k, .int .u8 h, .bool false, .int .i64 s, .int .u8 f] 24) := ⟨_, rfl⟩
  have HX0 : Hid (w0.heap[w.heap.size]? = some (.cells #[.int .i64 a, .int .i64 b, .int .i64 m, .int .i64 k, .int .u8 h, .bool false, .int .i64 s, .int .u8 f] 24 (0, 0))) := Lib.hid (by rw [hw0]; exact heap_alloc_new _ _)
  have HB0 : Hid (Below w.heap.size w w0) := Lib.hid (by rw [hw0]; exact box_below _ _)
  have HW0 := Lib.hid hw0
  clear hw0
  go_enter Tryd.func18, Tryd.ntmps18
  go_wp2_with fail
  refine (CM.out _).mono ?_
  rintro e w1 ⟨rfl, b1⟩
  rw [← HW0.out] at b1
  have HX1 := Lib.hid ((b1.block _ (heap_lt HX0.out)).trans HX0.out)
  have HB1 := Lib.hid (HB0.out.trans (b1.mono HB0.out.size))
  clear b1
  have x0 := cell_blk (i := 0) HX1.out
  have x1 := cell_blk (i := 1) HX1.out
  have x2 := cell_blk (i := 2) HX1.out
  have x3 := cell_blk (i := 3) HX1.out
  have x4 := cell_blk (i := 4) HX1.out
  have x5 := cell_blk (i := 5) HX1.out
  have x6 := cell_blk (i := 6) HX1.out
  have x7 := cell_blk (i := 7) HX1.out
  simp [ckO] at x0 x1 x2 x3 x4 x5 x6 x7
  go_wp2_with fail
  go_ret2
  exact ⟨rfl, HB1.out⟩

set_option maxHeartbeats 4000000 in
set_option maxRecDepth 100000 in
theorem rwhen_0ky (a b m k s : Int) (hm : mayB a b m k 0 true s 2 = true) (hk : 0 < k) (hl : min a k < 1073741824 - s) (w : World) : Calls Tryd.prog 18 #[ckV a b m k 0 true s 2] w fun e w' => e = .returned (.tuple #[.int .i64 (s + (min a k) + 1), .bool true]) ∧ Below w.heap.size w w' := by
  by_cases hka : k < a
  · obtain ⟨ha, hb, -, -, -, hk0, -, hs, -, -⟩ := may_bd hm
    have hcm := fun W => rmay_any a b m k 0 true s 2 (by omega) W
    rw [hm] at hcm
    have CM := Lib.hid hcm
    clear hcm
    clear hm
    obtain ⟨w0, hw0⟩ : ∃ w0, w0 = w.alloc (.cells #[.int .i64 a, .int .i64 b, .int .i64 m, .int .i64 k, .int .u8 0, .bool true, .int .i64 s, .int .u8 2] 24) := ⟨_, rfl⟩
    have HX0 : Hid (w0.heap[w.heap.size]? = some (.cells #[.int .i64 a, .int .i64 b, .int .i64 m, .int .i64 k, .int .u8 0, .bool true, .int .i64 s, .int .u8 2] 24 (0, 0))) := Lib.hid (by rw [hw0]; exact heap_alloc_new _ _)
    have HB0 : Hid (Below w.heap.size w w0) := Lib.hid (by rw [hw0]; exact box_below _ _)
    have HW0 := Lib.hid hw0
    clear hw0
    go_enter Tryd.func18, Tryd.ntmps18
    go_wp2_with fail
    refine (CM.out _).mono ?_
    rintro e w1 ⟨rfl, b1⟩
    rw [← HW0.out] at b1
    have HX1 := Lib.hid ((b1.block _ (heap_lt HX0.out)).trans HX0.out)
    have HB1 := Lib.hid (HB0.out.trans (b1.mono HB0.out.size))
    clear b1
    have x0 := cell_blk (i := 0) HX1.out
    have x1 := cell_blk (i := 1) HX1.out
    have x2 := cell_blk (i := 2) HX1.out
    have x3 := cell_blk (i := 3) HX1.out
    have x4 := cell_blk (i := 4) HX1.out
    have x5 := cell_blk (i := 5) HX1.out
    have x6 := cell_blk (i := 6) HX1.out
    have x7 := cell_blk (i := 7) HX1.out
    simp [ckO] at x0 x1 x2 x3 x4 x5 x6 x7
    go_wp2_with fail
    all_goals
      go_ret2
      exact ⟨by first | rfl | exact ret_ib (by omega) | (exfalso; omega), HB1.out⟩
  · obtain ⟨ha, hb, -, -, -, hk0, -, hs, -, -⟩ := may_bd hm
    have hcm := fun W => rmay_any a b m k 0 true s 2 (by omega) W
    rw [hm] at hcm
    have CM := Lib.hid hcm
    clear hcm
    clear hm
    obtain ⟨w0, hw0⟩ : ∃ w0, w0 = w.alloc (.cells #[.int .i64 a, .int .i64 b, .int .i64 m, .int .i64 k, .int .u8 0, .bool true, .int .i64 s, .int .u8 2] 24) := ⟨_, rfl⟩
    have HX0 : Hid (w0.heap[w.heap.size]? = some (.cells #[.int .i64 a, .int .i64 b, .int .i64 m, .int .i64 k, .int .u8 0, .bool true, .int .i64 s, .int .u8 2] 24 (0, 0))) := Lib.hid (by rw [hw0]; exact heap_alloc_new _ _)
    have HB0 : Hid (Below w.heap.size w w0) := Lib.hid (by rw [hw0]; exact box_below _ _)
    have HW0 := Lib.hid hw0
    clear hw0
    go_enter Tryd.func18, Tryd.ntmps18
    go_wp2_with fail
    refine (CM.out _).mono ?_
    rintro e w1 ⟨rfl, b1⟩
    rw [← HW0.out] at b1
    have HX1 := Lib.hid ((b1.block _ (heap_lt HX0.out)).trans HX0.out)
    have HB1 := Lib.hid (HB0.out.trans (b1.mono HB0.out.size))
    clear b1
    have x0 := cell_blk (i := 0) HX1.out
    have x1 := cell_blk (i := 1) HX1.out
    have x2 := cell_blk (i := 2) HX1.out
    have x3 := cell_blk (i := 3) HX1.out
    have x4 := cell_blk (i := 4) HX1.out
    have x5 := cell_blk (i := 5) HX1.out
    have x6 := cell_blk (i := 6) HX1.out
    have x7 := cell_blk (i := 7) HX1.out
    simp [ckO] at x0 x1 x2 x3 x4 x5 x6 x7
    go_wp2_with fail
    all_goals
      go_ret2
      exact ⟨by first | rfl | exact ret_ib (by omega) | (exfalso; omega), HB1.out⟩

set_option maxHeartbeats 4000000 in
set_option maxRecDepth 100000 in
theorem rwhen_0kl (a b m k s : Int) (hm : mayB a b m k 0 true s 2 = true) (hk : 0 < k) (hl : ¬ min a k < 1073741824 - s) (w : World) : Calls Tryd.prog 18 #[ckV a b m k 0 true s 2] w fun e w' => e = .returned (.tuple #[.int .i64 0, .bool false]) ∧ Below w.heap.size w w' := by
  by_cases hka : k < a
  · obtain ⟨ha, hb, -, -, -, hk0, -, hs, -, -⟩ := may_bd hm
    have hcm := fun W => rmay_any a b m k 0 true s 2 (by omega) W
    rw [hm] at hcm
    have CM := Lib.hid hcm
    clear hcm
    clear hm
    obtain ⟨w0, hw0⟩ : ∃ w0, w0 = w.alloc (.cells #[.int .i64 a, .int .i64 b, .int .i64 m, .int .i64 k, .int .u8 0, .bool true, .int .i64 s, .int .u8 2] 24) := ⟨_, rfl⟩
    have HX0 : Hid (w0.heap[w.heap.size]? = some (.cells #[.int .i64 a, .int .i64 b, .int .i64 m, .int .i64 k, .int .u8 0, .bool true, .int .i64 s, .int .u8 2] 24 (0, 0))) := Lib.hid (by rw [hw0]; exact heap_alloc_new _ _)
    have HB0 : Hid (Below w.heap.size w w0) := Lib.hid (by rw [hw0]; exact box_below _ _)
    have HW0 := Lib.hid hw0
    clear hw0
    go_enter Tryd.func18, Tryd.ntmps18
    go_wp2_with fail
    refine (CM.out _).mono ?_
    rintro e w1 ⟨rfl, b1⟩
    rw [← HW0.out] at b1
    have HX1 := Lib.hid ((b1.block _ (heap_lt HX0.out)).trans HX0.out)
    have HB1 := Lib.hid (HB0.out.trans (b1.mono HB0.out.size))
    clear b1
    have x0 := cell_blk (i := 0) HX1.out
    have x1 := cell_blk (i := 1) HX1.out
    have x2 := cell_blk (i := 2) HX1.out
    have x3 := cell_blk (i := 3) HX1.out
    have x4 := cell_blk (i := 4) HX1.out
    have x5 := cell_blk (i := 5) HX1.out
    have x6 := cell_blk (i := 6) HX1.out
    have x7 := cell_blk (i := 7) HX1.out
    simp [ckO] at x0 x1 x2 x3 x4 x5 x6 x7
    go_wp2_with fail
    all_goals
      go_ret2
      exact ⟨by first | rfl | exact ret_ib (by omega) | (exfalso; omega), HB1.out⟩
  · obtain ⟨ha, hb, -, -, -, hk0, -, hs, -, -⟩ := may_bd hm
    have hcm := fun W => rmay_any a b m k 0 true s 2 (by omega) W
    rw [hm] at hcm
    have CM := Lib.hid hcm
    clear hcm
    clear hm
    obtain ⟨w0, hw0⟩ : ∃ w0, w0 = w.alloc (.cells #[.int .i64 a, .int .i64 b, .int .i64 m, .int .i64 k, .int .u8 0, .bool true, .int .i64 s, .int .u8 2] 24) := ⟨_, rfl⟩
    have HX0 : Hid (w0.heap[w.heap.size]? = some (.cells #[.int .i64 a, .int .i64 b, .int .i64 m, .int .i64 k, .int .u8 0, .bool true, .int .i64 s, .int .u8 2] 24 (0, 0))) := Lib.hid (by rw [hw0]; exact heap_alloc_new _ _)
    have HB0 : Hid (Below w.heap.size w w0) := Lib.hid (by rw [hw0]; exact box_below _ _)
    have HW0 := Lib.hid hw0
    clear hw0
    go_enter Tryd.func18, Tryd.ntmps18
    go_wp2_with fail
    refine (CM.out _).mono ?_
    rintro e w1 ⟨rfl, b1⟩
    rw [← HW0.out] at b1
    have HX1 := Lib.hid ((b1.block _ (heap_lt HX0.out)).trans HX0.out)
    have HB1 := Lib.hid (HB0.out.trans (b1.mono HB0.out.size))
    clear b1
    have x0 := cell_blk (i := 0) HX1.out
    have x1 := cell_blk (i := 1) HX1.out
    have x2 := cell_blk (i := 2) HX1.out
    have x3 := cell_blk (i := 3) HX1.out
    have x4 := cell_blk (i := 4) HX1.out
    have x5 := cell_blk (i := 5) HX1.out
    have x6 := cell_blk (i := 6) HX1.out
    have x7 := cell_blk (i := 7) HX1.out
    simp [ckO] at x0 x1 x2 x3 x4 x5 x6 x7
    go_wp2_with fail
    all_goals
      go_ret2
      exact ⟨by first | rfl | exact ret_ib (by omega) | (exfalso; omega), HB1.out⟩

set_option maxHeartbeats 4000000 in
set_option maxRecDepth 100000 in
theorem rwhen_0ny (a b m k s : Int) (hm : mayB a b m k 0 true s 2 = true) (hk : ¬ 0 < k) (hl : a < 1073741824 - s) (w : World) : Calls Tryd.prog 18 #[ckV a b m k 0 true s 2] w fun e w' => e = .returned (.tuple #[.int .i64 (s + (a) + 1), .bool true]) ∧ Below w.heap.size w w' := by
  obtain ⟨ha, hb, -, -, -, hk0, -, hs, -, -⟩ := may_bd hm
  have hcm := fun W => rmay_any a b m k 0 true s 2 (by omega) W
  rw [hm] at hcm
  have CM := Lib.hid hcm
  clear hcm
  clear hm
  obtain ⟨w0, hw0⟩ : ∃ w0, w0 = w.alloc (.cells #[.int .i64 a, .int .i64 b, .int .i64 m, .int .i64 k, .int .u8 0, .bool true, .int .i64 s, .int .u8 2] 24) := ⟨_, rfl⟩
  have HX0 : Hid (w0.heap[w.heap.size]? = some (.cells #[.int .i64 a, .int .i64 b, .int .i64 m, .int .i64 k, .int .u8 0, .bool true, .int .i64 s, .int .u8 2] 24 (0, 0))) := Lib.hid (by rw [hw0]; exact heap_alloc_new _ _)
  have HB0 : Hid (Below w.heap.size w w0) := Lib.hid (by rw [hw0]; exact box_below _ _)
  have HW0 := Lib.hid hw0
  clear hw0
  go_enter Tryd.func18, Tryd.ntmps18
  go_wp2_with fail
  refine (CM.out _).mono ?_
  rintro e w1 ⟨rfl, b1⟩
  rw [← HW0.out] at b1
  have HX1 := Lib.hid ((b1.block _ (heap_lt HX0.out)).trans HX0.out)
  have HB1 := Lib.hid (HB0.out.trans (b1.mono HB0.out.size))
  clear b1
  have x0 := cell_blk (i := 0) HX1.out
  have x1 := cell_blk (i := 1) HX1.out
  have x2 := cell_blk (i := 2) HX1.out
  have x3 := cell_blk (i := 3) HX1.out
  have x4 := cell_blk (i := 4) HX1.out
  have x5 := cell_blk (i := 5) HX1.out
  have x6 := cell_blk (i := 6) HX1.out
  have x7 := cell_blk (i := 7) HX1.out
  simp [ckO] at x0 x1 x2 x3 x4 x5 x6 x7
  go_wp2_with fail
  all_goals
    go_ret2
    exact ⟨by first | rfl | exact ret_ib (by omega) | (exfalso; omega), HB1.out⟩

set_option maxHeartbeats 4000000 in
set_option maxRecDepth 100000 in
theorem rwhen_0nl (a b m k s : Int) (hm : mayB a b m k 0 true s 2 = true) (hk : ¬ 0 < k) (hl : ¬ a < 1073741824 - s) (w : World) : Calls Tryd.prog 18 #[ckV a b m k 0 true s 2] w fun e w' => e = .returned (.tuple #[.int .i64 0, .bool false]) ∧ Below w.heap.size w w' := by
  obtain ⟨ha, hb, -, -, -, hk0, -, hs, -, -⟩ := may_bd hm
  have hcm := fun W => rmay_any a b m k 0 true s 2 (by omega) W
  rw [hm] at hcm
  have CM := Lib.hid hcm
  clear hcm
  clear hm
  obtain ⟨w0, hw0⟩ : ∃ w0, w0 = w.alloc (.cells #[.int .i64 a, .int .i64 b, .int .i64 m, .int .i64 k, .int .u8 0, .bool true, .int .i64 s, .int .u8 2] 24) := ⟨_, rfl⟩
  have HX0 : Hid (w0.heap[w.heap.size]? = some (.cells #[.int .i64 a, .int .i64 b, .int .i64 m, .int .i64 k, .int .u8 0, .bool true, .int .i64 s, .int .u8 2] 24 (0, 0))) := Lib.hid (by rw [hw0]; exact heap_alloc_new _ _)
  have HB0 : Hid (Below w.heap.size w w0) := Lib.hid (by rw [hw0]; exact box_below _ _)
  have HW0 := Lib.hid hw0
  clear hw0
  go_enter Tryd.func18, Tryd.ntmps18
  go_wp2_with fail
  refine (CM.out _).mono ?_
  rintro e w1 ⟨rfl, b1⟩
  rw [← HW0.out] at b1
  have HX1 := Lib.hid ((b1.block _ (heap_lt HX0.out)).trans HX0.out)
  have HB1 := Lib.hid (HB0.out.trans (b1.mono HB0.out.size))
  clear b1
  have x0 := cell_blk (i := 0) HX1.out
  have x1 := cell_blk (i := 1) HX1.out
  have x2 := cell_blk (i := 2) HX1.out
  have x3 := cell_blk (i := 3) HX1.out
  have x4 := cell_blk (i := 4) HX1.out
  have x5 := cell_blk (i := 5) HX1.out
  have x6 := cell_blk (i := 6) HX1.out
  have x7 := cell_blk (i := 7) HX1.out
  simp [ckO] at x0 x1 x2 x3 x4 x5 x6 x7
  go_wp2_with fail
  all_goals
    go_ret2
    exact ⟨by first | rfl | exact ret_ib (by omega) | (exfalso; omega), HB1.out⟩

set_option maxHeartbeats 4000000 in
set_option maxRecDepth 100000 in
theorem rwhen_1ky (a b m k s : Int) (hm : mayB a b m k 1 true s 2 = true) (hk : 0 < k) (hl : min b k < 1073741824 - s) (w : World) : Calls Tryd.prog 18 #[ckV a b m k 1 true s 2] w fun e w' => e = .returned (.tuple #[.int .i64 (s + (min b k) + 1), .bool true]) ∧ Below w.heap.size w w' := by
  by_cases hka : k < b
  · obtain ⟨ha, hb, -, -, -, hk0, -, hs, -, -⟩ := may_bd hm
    have hcm := fun W => rmay_any a b m k 1 true s 2 (by omega) W
    rw [hm] at hcm
    have CM := Lib.hid hcm
    clear hcm
    clear hm
    obtain ⟨w0, hw0⟩ : ∃ w0, w0 = w.alloc (.cells #[.int .i64 a, .int .i64 b, .int .i64 m, .int .i64 k, .int .u8 1, .bool true, .int .i64 s, .int .u8 2] 24) := ⟨_, rfl⟩
    have HX0 : Hid (w0.heap[w.heap.size]? = some (.cells #[.int .i64 a, .int .i64 b, .int .i64 m, .int .i64 k, .int .u8 1, .bool true, .int .i64 s, .int .u8 2] 24 (0, 0))) := Lib.hid (by rw [hw0]; exact heap_alloc_new _ _)
    have HB0 : Hid (Below w.heap.size w w0) := Lib.hid (by rw [hw0]; exact box_below _ _)
    have HW0 := Lib.hid hw0
    clear hw0
    go_enter Tryd.func18, Tryd.ntmps18
    go_wp2_with fail
    refine (CM.out _).mono ?_
    rintro e w1 ⟨rfl, b1⟩
    rw [← HW0.out] at b1
    have HX1 := Lib.hid ((b1.block _ (heap_lt HX0.out)).trans HX0.out)
    have HB1 := Lib.hid (HB0.out.trans (b1.mono HB0.out.size))
    clear b1
    have x0 := cell_blk (i := 0) HX1.out
    have x1 := cell_blk (i := 1) HX1.out
    have x2 := cell_blk (i := 2) HX1.out
    have x3 := cell_blk (i := 3) HX1.out
    have x4 := cell_blk (i := 4) HX1.out
    have x5 := cell_blk (i := 5) HX1.out
    have x6 := cell_blk (i := 6) HX1.out
    have x7 := cell_blk (i := 7) HX1.out
    simp [ckO] at x0 x1 x2 x3 x4 x5 x6 x7
    go_wp2_with fail
    all_goals
      go_ret2
      exact ⟨by first | rfl | exact ret_ib (by omega) | (exfalso; omega), HB1.out⟩
  · obtain ⟨ha, hb, -, -, -, hk0, -, hs, -, -⟩ := may_bd hm
    have hcm := fun W => rmay_any a b m k 1 true s 2 (by omega) W
    rw [hm] at hcm
    have CM := Lib.hid hcm
    clear hcm
    clear hm
    obtain ⟨w0, hw0⟩ : ∃ w0, w0 = w.alloc (.cells #[.int .i64 a, .int .i64 b, .int .i64 m, .int .i64 k, .int .u8 1, .bool true, .int .i64 s, .int .u8 2] 24) := ⟨_, rfl⟩
    have HX0 : Hid (w0.heap[w.heap.size]? = some (.cells #[.int .i64 a, .int .i64 b, .int .i64 m, .int .i64 k, .int .u8 1, .bool true, .int .i64 s, .int .u8 2] 24 (0, 0))) := Lib.hid (by rw [hw0]; exact heap_alloc_new _ _)
    have HB0 : Hid (Below w.heap.size w w0) := Lib.hid (by rw [hw0]; exact box_below _ _)
    have HW0 := Lib.hid hw0
    clear hw0
    go_enter Tryd.func18, Tryd.ntmps18
    go_wp2_with fail
    refine (CM.out _).mono ?_
    rintro e w1 ⟨rfl, b1⟩
    rw [← HW0.out] at b1
    have HX1 := Lib.hid ((b1.block _ (heap_lt HX0.out)).trans HX0.out)
    have HB1 := Lib.hid (HB0.out.trans (b1.mono HB0.out.size))
    clear b1
    have x0 := cell_blk (i := 0) HX1.out
    have x1 := cell_blk (i := 1) HX1.out
    have x2 := cell_blk (i := 2) HX1.out
    have x3 := cell_blk (i := 3) HX1.out
    have x4 := cell_blk (i := 4) HX1.out
    have x5 := cell_blk (i := 5) HX1.out
    have x6 := cell_blk (i := 6) HX1.out
    have x7 := cell_blk (i := 7) HX1.out
    simp [ckO] at x0 x1 x2 x3 x4 x5 x6 x7
    go_wp2_with fail
    all_goals
      go_ret2
      exact ⟨by first | rfl | exact ret_ib (by omega) | (exfalso; omega), HB1.out⟩

set_option maxHeartbeats 4000000 in
set_option maxRecDepth 100000 in
theorem rwhen_1kl (a b m k s : Int) (hm : mayB a b m k 1 true s 2 = true) (hk : 0 < k) (hl : ¬ min b k < 1073741824 - s) (w : World) : Calls Tryd.prog 18 #[ckV a b m k 1 true s 2] w fun e w' => e = .returned (.tuple #[.int .i64 0, .bool false]) ∧ Below w.heap.size w w' := by
  by_cases hka : k < b
  · obtain ⟨ha, hb, -, -, -, hk0, -, hs, -, -⟩ := may_bd hm
    have hcm := fun W => rmay_any a b m k 1 true s 2 (by omega) W
    rw [hm] at hcm
    have CM := Lib.hid hcm
    clear hcm
    clear hm
    obtain ⟨w0, hw0⟩ : ∃ w0, w0 = w.alloc (.cells #[.int .i64 a, .int .i64 b, .int .i64 m, .int .i64 k, .int .u8 1, .bool true, .int .i64 s, .int .u8 2] 24) := ⟨_, rfl⟩
    have HX0 : Hid (w0.heap[w.heap.size]? = some (.cells #[.int .i64 a, .int .i64 b, .int .i64 m, .int .i64 k, .int .u8 1, .bool true, .int .i64 s, .int .u8 2] 24 (0, 0))) := Lib.hid (by rw [hw0]; exact heap_alloc_new _ _)
    have HB0 : Hid (Below w.heap.size w w0) := Lib.hid (by rw [hw0]; exact box_below _ _)
    have HW0 := Lib.hid hw0
    clear hw0
    go_enter Tryd.func18, Tryd.ntmps18
    go_wp2_with fail
    refine (CM.out _).mono ?_
    rintro e w1 ⟨rfl, b1⟩
    rw [← HW0.out] at b1
    have HX1 := Lib.hid ((b1.block _ (heap_lt HX0.out)).trans HX0.out)
    have HB1 := Lib.hid (HB0.out.trans (b1.mono HB0.out.size))
    clear b1
    have x0 := cell_blk (i := 0) HX1.out
    have x1 := cell_blk (i := 1) HX1.out
    have x2 := cell_blk (i := 2) HX1.out
    have x3 := cell_blk (i := 3) HX1.out
    have x4 := cell_blk (i := 4) HX1.out
    have x5 := cell_blk (i := 5) HX1.out
    have x6 := cell_blk (i := 6) HX1.out
    have x7 := cell_blk (i := 7) HX1.out
    simp [ckO] at x0 x1 x2 x3 x4 x5 x6 x7
    go_wp2_with fail
    all_goals
      go_ret2
      exact ⟨by first | rfl | exact ret_ib (by omega) | (exfalso; omega), HB1.out⟩
  · obtain ⟨ha, hb, -, -, -, hk0, -, hs, -, -⟩ := may_bd hm
    have hcm := fun W => rmay_any a b m k 1 true s 2 (by omega) W
    rw [hm] at hcm
    have CM := Lib.hid hcm
    clear hcm
    clear hm
    obtain ⟨w0, hw0⟩ : ∃ w0, w0 = w.alloc (.cells #[.int .i64 a, .int .i64 b, .int .i64 m, .int .i64 k, .int .u8 1, .bool true, .int .i64 s, .int .u8 2] 24) := ⟨_, rfl⟩
    have HX0 : Hid (w0.heap[w.heap.size]? = some (.cells #[.int .i64 a, .int .i64 b, .int .i64 m, .int .i64 k, .int .u8 1, .bool true, .int .i64 s, .int .u8 2] 24 (0, 0))) := Lib.hid (by rw [hw0]; exact heap_alloc_new _ _)
    have HB0 : Hid (Below w.heap.size w w0) := Lib.hid (by rw [hw0]; exact box_below _ _)
    have HW0 := Lib.hid hw0
    clear hw0
    go_enter Tryd.func18, Tryd.ntmps18
    go_wp2_with fail
    refine (CM.out _).mono ?_
    rintro e w1 ⟨rfl, b1⟩
    rw [← HW0.out] at b1
    have HX1 := Lib.hid ((b1.block _ (heap_lt HX0.out)).trans HX0.out)
    have HB1 := Lib.hid (HB0.out.trans (b1.mono HB0.out.size))
    clear b1
    have x0 := cell_blk (i := 0) HX1.out
    have x1 := cell_blk (i := 1) HX1.out
    have x2 := cell_blk (i := 2) HX1.out
    have x3 := cell_blk (i := 3) HX1.out
    have x4 := cell_blk (i := 4) HX1.out
    have x5 := cell_blk (i := 5) HX1.out
    have x6 := cell_blk (i := 6) HX1.out
    have x7 := cell_blk (i := 7) HX1.out
    simp [ckO] at x0 x1 x2 x3 x4 x5 x6 x7
    go_wp2_with fail
    all_goals
      go_ret2
      exact ⟨by first | rfl | exact ret_ib (by omega) | (exfalso; omega), HB1.out⟩

set_option maxHeartbeats 4000000 in
set_option maxRecDepth 100000 in
theorem rwhen_1ny (a b m k s : Int) (hm : mayB a b m k 1 true s 2 = true) (hk : ¬ 0 < k) (hl : b < 1073741824 - s) (w : World) : Calls Tryd.prog 18 #[ckV a b m k 1 true s 2] w fun e w' => e = .returned (.tuple #[.int .i64 (s + (b) + 1), .bool true]) ∧ Below w.heap.size w w' := by
  obtain ⟨ha, hb, -, -, -, hk0, -, hs, -, -⟩ := may_bd hm
  have hcm := fun W => rmay_any a b m k 1 true s 2 (by omega) W
  rw [hm] at hcm
  have CM := Lib.hid hcm
  clear hcm
  clear hm
  obtain ⟨w0, hw0⟩ : ∃ w0, w0 = w.alloc (.cells #[.int .i64 a, .int .i64 b, .int .i64 m, .int .i64 k, .int .u8 1, .bool true, .int .i64 s, .int .u8 2] 24) := ⟨_, rfl⟩
  have HX0 : Hid (w0.heap[w.heap.size]? = some (.cells #[.int .i64 a, .int .i64 b, .int .i64 m, .int .i64 k, .int .u8 1, .bool true, .int .i64 s, .int .u8 2] 24 (0, 0))) := Lib.hid (by rw [hw0]; exact heap_alloc_new _ _)
  have HB0 : Hid (Below w.heap.size w w0) := Lib.hid (by rw [hw0]; exact box_below _ _)
  have HW0 := Lib.hid hw0
  clear hw0
  go_enter Tryd.func18, Tryd.ntmps18
  go_wp2_with fail
  refine (CM.out _).mono ?_
  rintro e w1 ⟨rfl, b1⟩
  rw [← HW0.out] at b1
  have HX1 := Lib.hid ((b1.block _ (heap_lt HX0.out)).trans HX0.out)
  have HB1 := Lib.hid (HB0.out.trans (b1.mono HB0.out.size))
  clear b1
  have x0 := cell_blk (i := 0) HX1.out
  have x1 := cell_blk (i := 1) HX1.out
  have x2 := cell_blk (i := 2) HX1.out
  have x3 := cell_blk (i := 3) HX1.out
  have x4 := cell_blk (i := 4) HX1.out
  have x5 := cell_blk (i := 5) HX1.out
  have x6 := cell_blk (i := 6) HX1.out
  have x7 := cell_blk (i := 7) HX1.out
  simp [ckO] at x0 x1 x2 x3 x4 x5 x6 x7
  go_wp2_with fail
  all_goals
    go_ret2
    exact ⟨by first | rfl | exact ret_ib (by omega) | (exfalso; omega), HB1.out⟩

set_option maxHeartbeats 4000000 in
set_option maxRecDepth 100000 in
theorem rwhen_1nl (a b m k s : Int) (hm : mayB a b m k 1 true s 2 = true) (hk : ¬ 0 < k) (hl : ¬ b < 1073741824 - s) (w : World) : Calls Tryd.prog 18 #[ckV a b m k 1 true s 2] w fun e w' => e = .returned (.tuple #[.int .i64 0, .bool false]) ∧ Below w.heap.size w w' := by
  obtain ⟨ha, hb, -, -, -, hk0, -, hs, -, -⟩ := may_bd hm
  have hcm := fun W => rmay_any a b m k 1 true s 2 (by omega) W
  rw [hm] at hcm
  have CM := Lib.hid hcm
  clear hcm
  clear hm
  obtain ⟨w0, hw0⟩ : ∃ w0, w0 = w.alloc (.cells #[.int .i64 a, .int .i64 b, .int .i64 m, .int .i64 k, .int .u8 1, .bool true, .int .i64 s, .int .u8 2] 24) := ⟨_, rfl⟩
  have HX0 : Hid (w0.heap[w.heap.size]? = some (.cells #[.int .i64 a, .int .i64 b, .int .i64 m, .int .i64 k, .int .u8 1, .bool true, .int .i64 s, .int .u8 2] 24 (0, 0))) := Lib.hid (by rw [hw0]; exact heap_alloc_new _ _)
  have HB0 : Hid (Below w.heap.size w w0) := Lib.hid (by rw [hw0]; exact box_below _ _)
  have HW0 := Lib.hid hw0
  clear hw0
  go_enter Tryd.func18, Tryd.ntmps18
  go_wp2_with fail
  refine (CM.out _).mono ?_
  rintro e w1 ⟨rfl, b1⟩
  rw [← HW0.out] at b1
  have HX1 := Lib.hid ((b1.block _ (heap_lt HX0.out)).trans HX0.out)
  have HB1 := Lib.hid (HB0.out.trans (b1.mono HB0.out.size))
  clear b1
  have x0 := cell_blk (i := 0) HX1.out
  have x1 := cell_blk (i := 1) HX1.out
  have x2 := cell_blk (i := 2) HX1.out
  have x3 := cell_blk (i := 3) HX1.out
  have x4 := cell_blk (i := 4) HX1.out
  have x5 := cell_blk (i := 5) HX1.out
  have x6 := cell_blk (i := 6) HX1.out
  have x7 := cell_blk (i := 7) HX1.out
  simp [ckO] at x0 x1 x2 x3 x4 x5 x6 x7
  go_wp2_with fail
  all_goals
    go_ret2
    exact ⟨by first | rfl | exact ret_ib (by omega) | (exfalso; omega), HB1.out⟩

theorem rwhen_any (a b m k : Int) (h : Nat) (on : Bool) (s : Int) (f : Nat) (hg : f < 256) (w : World) : Calls Tryd.prog 18 #[ckV a b m k h on s f] w fun e w' => e = .returned (.tuple #[.int .i64 (whenC a b m k h on s f).1, .bool (whenC a b m k h on s f).2]) ∧ Below w.heap.size w w' := by
  unfold whenC
  cases hm : mayB a b m k h on s f
  · rw [if_neg (by simp)]
    exact rwhen_no a b m k h on s f hg hm w
  cases on
  · rw [if_neg (by simp)]
    exact rwhen_off a b m k h s f hg hm w
  obtain ⟨-, -, -, -, -, -, hh, -, -, hf2⟩ := may_bd hm
  obtain rfl : f = 2 := by
    rcases hf2 with e | e
    · exact e
    · cases e
  obtain rfl | rfl : h = 0 ∨ h = 1 := by omega
  · by_cases hk : 0 < k
    · rw [show longI a b k 0 = min a k from if_pos hk]
      by_cases hl : min a k < 1073741824 - s
      · rw [if_pos ⟨rfl, rfl, hl⟩]; exact rwhen_0ky a b m k s hm hk hl w
      · rw [if_neg (fun x => hl x.2.2)]; exact rwhen_0kl a b m k s hm hk hl w
    · rw [show longI a b k 0 = a from if_neg hk]
      by_cases hl : a < 1073741824 - s
      · rw [if_pos ⟨rfl, rfl, hl⟩]; exact rwhen_0ny a b m k s hm hk hl w
      · rw [if_neg (fun x => hl x.2.2)]; exact rwhen_0nl a b m k s hm hk hl w
  · by_cases hk : 0 < k
    · rw [show longI a b k 1 = min b k from if_pos hk]
      by_cases hl : min b k < 1073741824 - s
      · rw [if_pos ⟨rfl, rfl, hl⟩]; exact rwhen_1ky a b m k s hm hk hl w
      · rw [if_neg (fun x => hl x.2.2)]; exact rwhen_1kl a b m k s hm hk hl w
    · rw [show longI a b k 1 = b from if_neg hk]
      by_cases hl : b < 1073741824 - s
      · rw [if_pos ⟨rfl, rfl, hl⟩]; exact rwhen_1ny a b m k s hm hk hl w
      · rw [if_neg (fun x => hl x.2.2)]; exact rwhen_1nl a b m k s hm hk hl w
end Go.Proofs.YtcemekianoehfaaDoor
