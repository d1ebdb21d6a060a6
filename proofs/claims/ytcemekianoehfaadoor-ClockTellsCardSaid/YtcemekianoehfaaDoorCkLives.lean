/- joustlaw28.lives: walked. (Made by gen/mkck.py.) -/
import Derived.Test.YtcemekianoehfaaDoorCkNew
import Derived.Test.YtcemekianoehfaaDoorCkStart
import Derived.Test.YtcemekianoehfaaDoorCkStop
import Derived.Test.YtcemekianoehfaaDoorCkLook
import Derived.Test.YtcemekianoehfaaDoorCkWhen
import Derived.Test.YtcemekianoehfaaDoorCkTextB
import Derived.Test.YtcemekianoehfaaDoorCkEq
namespace Go.Proofs.YtcemekianoehfaaDoor
open Go.RowKit Go.Lib Go.Sort


theorem lv_new (w : World) : Calls Tryd.prog 5 #[.int .i64 60, .int .i64 5, .int .i64 0] w fun e w' => e = .returned (.tuple #[ckV 60 60 5 0 0 false 0 2, .int .i64 0]) ∧ Below w.heap.size w w' := by
  have h := new_any 60 5 0 w
  rw [show newC 60 5 0 = (⟨60, 60, 5, 0, 0, false, 0, 2⟩, 0) by kernel_rfl] at h
  exact h
theorem lv_start (w : World) : Calls Tryd.prog 11 #[ckV 60 60 5 0 0 false 0 2, .int .u8 0, .int .i64 100] w fun e w' => e = .returned (.tuple #[ckV 60 60 5 0 0 true 100 2, .int .i64 0]) ∧ Below w.heap.size w w' := by
  have h := start_any 60 60 5 0 0 false 0 2 0 100 w
  rw [show startC 60 60 5 0 0 false 0 2 0 100 = (⟨60, 60, 5, 0, 0, true, 100, 2⟩, 0) by kernel_rfl] at h
  exact h
theorem lv_look (w : World) : Calls Tryd.prog 15 #[ckV 60 60 5 0 0 true 100 2, .int .i64 130] w fun e w' => e = .returned (.tuple #[twoV 30 60, .bool false, .int .i64 0]) ∧ Below w.heap.size w w' := by
  have h := look_any 60 60 5 0 0 true 100 2 130 w
  rw [show lookC 60 60 5 0 0 true 100 2 130 = (30, 60, false, 0) by kernel_rfl] at h
  exact h
theorem lv_when (w : World) : Calls Tryd.prog 17 #[ckV 60 60 5 0 0 true 100 2] w fun e w' => e = .returned (.tuple #[.int .i64 161, .bool true]) ∧ Below w.heap.size w w' := by
  have h := when_any 60 60 5 0 0 true 100 2 w
  rw [show whenC 60 60 5 0 0 true 100 2 = (161, true) by kernel_rfl] at h
  exact h
theorem lv_stop (w : World) : Calls Tryd.prog 13 #[ckV 60 60 5 0 0 true 100 2, .int .i64 130] w fun e w' => e = .returned (.tuple #[ckV 35 60 5 0 0 false 130 2, .bool true, .int .i64 0]) ∧ Below w.heap.size w w' := by
  have h := stop_any 60 60 5 0 0 true 100 2 130 w
  rw [show stopC 60 60 5 0 0 true 100 2 130 = (⟨35, 60, 5, 0, 0, false, 130, 2⟩, true, 0) by kernel_rfl] at h
  exact h
theorem lv_text (w : World) (hT : PTab w) : Calls Tryd.prog 9 #[ckV 60 60 5 0 0 false 0 2, .int .i64 0] w fun e w' => e = .returned (.string ⟨#[49, 58, 48, 48, 32, 49, 58, 48, 48]⟩) ∧ Below w.heap.size w w' := by
  have h := text_any 60 60 5 0 0 false 0 2 0 w hT
  rw [show textC 60 60 5 0 0 false 0 2 0 = ⟨#[49, 58, 48, 48, 32, 49, 58, 48, 48]⟩ by decide +kernel] at h
  exact h
set_option maxHeartbeats 16000000 in
set_option maxRecDepth 100000 in
theorem lives_any (w : World) (hT : PTab w) : Calls Tryd.prog 19 #[] w fun e w' => e = .returned (.bool true) ∧ Below w.heap.size w w' := by
  have HPT := Lib.hid hT
  clear hT
  go_enter Tryd.func19, Tryd.ntmps19
  go_wp2_with fail
  refine (lv_new _).mono ?_
  rintro e w1 ⟨rfl, b1⟩
  have HB1 := Lib.hid b1
  clear b1
  go_wp2_with fail
  obtain ⟨w2, hw2⟩ : ∃ w2, w2 = w1.alloc (.cells #[.int .i64 60, .int .i64 60, .int .i64 5, .int .i64 0, .int .u8 0, .bool false, .int .i64 0, .int .u8 2] 24) := ⟨_, rfl⟩
  rw [← hw2]
  have HX2 := Lib.hid (show w2.heap[w1.heap.size]? = some (.cells #[.int .i64 60, .int .i64 60, .int .i64 5, .int .i64 0, .int .u8 0, .bool false, .int .i64 0, .int .u8 2] 24 (0, 0)) by rw [hw2]; exact heap_alloc_new _ _)
  have HB2 := Lib.hid (show Below w.heap.size w w2 by rw [hw2]; exact HB1.out.alloc HB1.out.size _)
  clear hw2
  refine (lv_text _ (HPT.out.below HB2.out)).mono ?_
  rintro e w3 ⟨rfl, b3⟩
  have HX3 := Lib.hid ((b3.block _ (heap_lt HX2.out)).trans HX2.out)
  have HB3 := Lib.hid (HB2.out.trans (b3.mono HB2.out.size))
  clear b3
  have x0 := cell_blk (i := 0) HX3.out
  have x1 := cell_blk (i := 1) HX3.out
  have x2 := cell_blk (i := 2) HX3.out
  have x3 := cell_blk (i := 3) HX3.out
  have x4 := cell_blk (i := 4) HX3.out
  have x5 := cell_blk (i := 5) HX3.out
  have x6 := cell_blk (i := 6) HX3.out
  have x7 := cell_blk (i := 7) HX3.out
  simp [ckO] at x0 x1 x2 x3 x4 x5 x6 x7
  go_wp2_with fail
  refine (lv_start _).mono ?_
  rintro e w4 ⟨rfl, b4⟩
  have HX4 := Lib.hid ((b4.block _ (heap_lt HX3.out)).trans HX3.out)
  have HB4 := Lib.hid (HB3.out.trans (b4.mono HB3.out.size))
  clear b4
  clear x0 x1 x2 x3 x4 x5 x6 x7
  have x0 := cell_blk (i := 0) HX4.out
  have x1 := cell_blk (i := 1) HX4.out
  have x2 := cell_blk (i := 2) HX4.out
  have x3 := cell_blk (i := 3) HX4.out
  have x4 := cell_blk (i := 4) HX4.out
  have x5 := cell_blk (i := 5) HX4.out
  have x6 := cell_blk (i := 6) HX4.out
  have x7 := cell_blk (i := 7) HX4.out
  simp [ckO] at x0 x1 x2 x3 x4 x5 x6 x7
  have xf0 := free_blk (i := 0) HX4.out
  have xf1 := free_blk (i := 1) HX4.out
  have xf2 := free_blk (i := 2) HX4.out
  have xf3 := free_blk (i := 3) HX4.out
  have xf4 := free_blk (i := 4) HX4.out
  have xf5 := free_blk (i := 5) HX4.out
  have xf6 := free_blk (i := 6) HX4.out
  have xf7 := free_blk (i := 7) HX4.out
  go_wp2_with fail
  obtain ⟨w5, hw5⟩ : ∃ w5, w5 = ((((((((w4).setCell ⟨w1.heap.size, 0, none⟩ (.int .i64 60)).setCell ⟨w1.heap.size, 1, none⟩ (.int .i64 60)).setCell ⟨w1.heap.size, 2, none⟩ (.int .i64 5)).setCell ⟨w1.heap.size, 3, none⟩ (.int .i64 0)).setCell ⟨w1.heap.size, 4, none⟩ (.int .u8 0)).setCell ⟨w1.heap.size, 5, none⟩ (.bool true)).setCell ⟨w1.heap.size, 6, none⟩ (.int .i64 100)).setCell ⟨w1.heap.size, 7, none⟩ (.int .u8 2) := ⟨_, rfl⟩
  rw [← hw5]
  have HX5 := Lib.hid (show w5.heap[w1.heap.size]? = some (.cells #[.int .i64 60, .int .i64 60, .int .i64 5, .int .i64 0, .int .u8 0, .bool true, .int .i64 100, .int .u8 2] 24 (0, 0)) by rw [hw5, (heap_set (i := 7) (heap_set (i := 6) (heap_set (i := 5) (heap_set (i := 4) (heap_set (i := 3) (heap_set (i := 2) (heap_set (i := 1) (heap_set (i := 0) HX4.out _) _) _) _) _) _) _) _)]; rfl)
  have HB5 := Lib.hid (show Below w.heap.size w w5 by rw [hw5]; exact ((((((((HB4.out.setCell (HB1.out.size) _).setCell (HB1.out.size) _).setCell (HB1.out.size) _).setCell (HB1.out.size) _).setCell (HB1.out.size) _).setCell (HB1.out.size) _).setCell (HB1.out.size) _).setCell (HB1.out.size) _))
  clear hw5
  clear x0 x1 x2 x3 x4 x5 x6 x7 xf0 xf1 xf2 xf3 xf4 xf5 xf6 xf7
  refine (lv_look _).mono ?_
  rintro e w6 ⟨rfl, b6⟩
  have HX6 := Lib.hid ((b6.block _ (heap_lt HX5.out)).trans HX5.out)
  have HB6 := Lib.hid (HB5.out.trans (b6.mono HB5.out.size))
  clear b6
  have hl6 := heap_lt HX6.out
  have x0 := cell_blk (i := 0) HX6.out
  have x1 := cell_blk (i := 1) HX6.out
  have x2 := cell_blk (i := 2) HX6.out
  have x3 := cell_blk (i := 3) HX6.out
  have x4 := cell_blk (i := 4) HX6.out
  have x5 := cell_blk (i := 5) HX6.out
  have x6 := cell_blk (i := 6) HX6.out
  have x7 := cell_blk (i := 7) HX6.out
  simp [ckO] at x0 x1 x2 x3 x4 x5 x6 x7
  go_wp2_with fail
  obtain ⟨w7, hw7⟩ : ∃ w7, w7 = w6.alloc (.cells #[.int .i64 30, .int .i64 60] 22) := ⟨_, rfl⟩
  rw [← hw7]
  have HX7 := Lib.hid (show w7.heap[w1.heap.size]? = some (.cells #[.int .i64 60, .int .i64 60, .int .i64 5, .int .i64 0, .int .u8 0, .bool true, .int .i64 100, .int .u8 2] 24 (0, 0)) by rw [hw7]; exact heap_older HX6.out)
  have HL7 := Lib.hid (show w7.heap[w6.heap.size]? = some (.cells #[.int .i64 30, .int .i64 60] 22 (0, 0)) by rw [hw7]; exact heap_alloc_new _ _)
  have HB7 := Lib.hid (show Below w.heap.size w w7 by rw [hw7]; exact HB6.out.alloc HB6.out.size _)
  clear hw7
  clear x0 x1 x2 x3 x4 x5 x6 x7
  refine (lv_when _).mono ?_
  rintro e w8 ⟨rfl, b8⟩
  have HX8 := Lib.hid ((b8.block _ (heap_lt HX7.out)).trans HX7.out)
  have HL8 := Lib.hid ((b8.block _ (heap_lt HL7.out)).trans HL7.out)
  have HB8 := Lib.hid (HB7.out.trans (b8.mono HB7.out.size))
  clear b8
  have x0 := cell_blk (i := 0) HX8.out
  have x1 := cell_blk (i := 1) HX8.out
  have x2 := cell_blk (i := 2) HX8.out
  have x3 := cell_blk (i := 3) HX8.out
  have x4 := cell_blk (i := 4) HX8.out
  have x5 := cell_blk (i := 5) HX8.out
  have x6 := cell_blk (i := 6) HX8.out
  have x7 := cell_blk (i := 7) HX8.out
  simp [ckO] at x0 x1 x2 x3 x4 x5 x6 x7
  go_wp2_with fail
  refine (lv_stop _).mono ?_
  rintro e w9 ⟨rfl, b9⟩
  have HX9 := Lib.hid ((b9.block _ (heap_lt HX8.out)).trans HX8.out)
  have HL9 := Lib.hid ((b9.block _ (heap_lt HL8.out)).trans HL8.out)
  have HB9 := Lib.hid (HB8.out.trans (b9.mono HB8.out.size))
  clear b9
  clear x0 x1 x2 x3 x4 x5 x6 x7
  have x0 := cell_blk (i := 0) HX9.out
  have x1 := cell_blk (i := 1) HX9.out
  have x2 := cell_blk (i := 2) HX9.out
  have x3 := cell_blk (i := 3) HX9.out
  have x4 := cell_blk (i := 4) HX9.out
  have x5 := cell_blk (i := 5) HX9.out
  have x6 := cell_blk (i := 6) HX9.out
  have x7 := cell_blk (i := 7) HX9.out
  simp [ckO] at x0 x1 x2 x3 x4 x5 x6 x7
  have xf0 := free_blk (i := 0) HX9.out
  have xf1 := free_blk (i := 1) HX9.out
  have xf2 := free_blk (i := 2) HX9.out
  have xf3 := free_blk (i := 3) HX9.out
  have xf4 := free_blk (i := 4) HX9.out
  have xf5 := free_blk (i := 5) HX9.out
  have xf6 := free_blk (i := 6) HX9.out
  have xf7 := free_blk (i := 7) HX9.out
  have l0 := cell_blk (i := 0) HL9.out
  have l1 := cell_blk (i := 1) HL9.out
  simp [ckO] at l0 l1
  have q1 := fun W => two_eq 30 60 W
  have q2 := fun W => two_eq 35 60 W
  have hne : w6.heap.size ≠ w1.heap.size := by omega
  go_wp2_with fail
  go_ret
  exact ⟨rfl, ((((((((HB9.out.setCell (HB1.out.size) _).setCell (HB1.out.size) _).setCell (HB1.out.size) _).setCell (HB1.out.size) _).setCell (HB1.out.size) _).setCell (HB1.out.size) _).setCell (HB1.out.size) _).setCell (HB1.out.size) _)⟩

end Go.Proofs.YtcemekianoehfaaDoor
