/- clock.Stop, where it falls: walked. (Made by gen/mkck.py.) -/
import Derived.Test.YtcemekianoehfaaDoorCkStopA
namespace Go.Proofs.YtcemekianoehfaaDoor
open Go.RowKit Go.Lib Go.Sort

set_option maxHeartbeats 16000000 in
set_option maxRecDepth 100000 in
theorem stop_fell0 (a b m k s n : Int) (hn : askB a b m k 0 true s 2 n = true) (hf : fallB a b k 0 true s n = true) (w : World) : Calls Tryd.prog 13 #[ckV a b m k 0 true s 2, .int .i64 n] w fun e w' => e = .returned (.tuple #[ckV 0 b m k 0 false n 0, .bool false, .int .i64 0]) ∧ Below w.heap.size w w' := by
  obtain ⟨ha, hb, ha0, hb0, hm, hk, -, -, -, hs, hsn, hnT⟩ := ask_bd hn
  obtain ⟨w0, hw0⟩ : ∃ w0, w0 = (w.alloc (.cells #[.int .i64 a, .int .i64 b, .int .i64 m, .int .i64 k, .int .u8 0, .bool true, .int .i64 s, .int .u8 2] 24)).alloc (.cells #[.int .i64 0, .int .i64 0, .int .i64 0, .int .i64 0, .int .u8 0, .bool false, .int .i64 0, .int .u8 0] 24) := ⟨_, rfl⟩
  have HX0 : Hid (w0.heap[w.heap.size]? = some (.cells #[.int .i64 a, .int .i64 b, .int .i64 m, .int .i64 k, .int .u8 0, .bool true, .int .i64 s, .int .u8 2] 24 (0, 0))) := Lib.hid (by rw [hw0]; exact heap_older (heap_alloc_new _ _))
  have HZ0 : Hid (w0.heap[w.heap.size + 1]? = some (.cells #[.int .i64 0, .int .i64 0, .int .i64 0, .int .i64 0, .int .u8 0, .bool false, .int .i64 0, .int .u8 0] 24 (0, 0))) := Lib.hid (by rw [hw0]; exact heap_newer _ _ _ (by simp))
  have HB0 : Hid (Below w.heap.size w w0) := Lib.hid (by rw [hw0]; exact (box_below _ _).alloc (by simp) _)
  have HW0 := Lib.hid hw0
  clear hw0
  go_enter Tryd.func13, Tryd.ntmps13
  go_wp2_with fail
  refine (ask_any a b m k 0 true s 2 n _).mono ?_
  rintro e w2 ⟨rfl, hb2⟩
  rw [← HW0.out] at hb2
  have HX2 := Lib.hid ((hb2.block _ (heap_lt HX0.out)).trans HX0.out)
  have HZ2 := Lib.hid ((hb2.block _ (heap_lt HZ0.out)).trans HZ0.out)
  have HB2 := Lib.hid (HB0.out.trans (hb2.mono HB0.out.size))
  clear hb2
  have x0 := cell_blk (i := 0) HX2.out
  have x1 := cell_blk (i := 1) HX2.out
  have x2 := cell_blk (i := 2) HX2.out
  have x3 := cell_blk (i := 3) HX2.out
  have x4 := cell_blk (i := 4) HX2.out
  have x5 := cell_blk (i := 5) HX2.out
  have x6 := cell_blk (i := 6) HX2.out
  have x7 := cell_blk (i := 7) HX2.out
  simp [ckO] at x0 x1 x2 x3 x4 x5 x6 x7
  have xf0 := free_blk (i := 0) HX2.out
  have xf1 := free_blk (i := 1) HX2.out
  have xf2 := free_blk (i := 2) HX2.out
  have xf3 := free_blk (i := 3) HX2.out
  have xf4 := free_blk (i := 4) HX2.out
  have xf5 := free_blk (i := 5) HX2.out
  have xf6 := free_blk (i := 6) HX2.out
  have xf7 := free_blk (i := 7) HX2.out
  have z0 := cell_blk (i := 0) HZ2.out
  have z1 := cell_blk (i := 1) HZ2.out
  have z2 := cell_blk (i := 2) HZ2.out
  have z3 := cell_blk (i := 3) HZ2.out
  have z4 := cell_blk (i := 4) HZ2.out
  have z5 := cell_blk (i := 5) HZ2.out
  have z6 := cell_blk (i := 6) HZ2.out
  have z7 := cell_blk (i := 7) HZ2.out
  simp [ckO] at z0 z1 z2 z3 z4 z5 z6 z7
  have zf0 := free_blk (i := 0) HZ2.out
  have zf1 := free_blk (i := 1) HZ2.out
  have zf2 := free_blk (i := 2) HZ2.out
  have zf3 := free_blk (i := 3) HZ2.out
  have zf4 := free_blk (i := 4) HZ2.out
  have zf5 := free_blk (i := 5) HZ2.out
  have zf6 := free_blk (i := 6) HZ2.out
  have zf7 := free_blk (i := 7) HZ2.out
  go_wp2_with fail
  clear x0 x1 x2 x3 x4 x5 x6 x7 xf0 xf1 xf2 xf3 xf4 xf5 xf6 xf7 z0 z1 z2 z3 z4 z5 z6 z7 zf0 zf1 zf2 zf3 zf4 zf5 zf6 zf7
  refine (falls_on0 a b m k s 2 n hs hsn hnT _).mono ?_
  rintro e w4 ⟨rfl, hb2⟩
  have HX4 := Lib.hid ((hb2.block _ (heap_lt HX2.out)).trans HX2.out)
  have HZ4 := Lib.hid ((hb2.block _ (heap_lt HZ2.out)).trans HZ2.out)
  have HB4 := Lib.hid (HB2.out.trans (hb2.mono HB2.out.size))
  clear hb2
  have x0 := cell_blk (i := 0) HX4.out
  have x1 := cell_blk (i := 1) HX4.out
  have x2 := cell_blk (i := 2) HX4.out
  have x3 := cell_blk (i := 3) HX4.out
  have x4 := cell_blk (i := 4) HX4.out
  have x5 := cell_blk (i := 5) HX4.out
  have x6 := cell_blk (i := 6) HX4.out
  have x7 := cell_blk (i := 7) HX4.out
  simp [ckO] at x0 x1 x2 x3 x4 x5 x6 x7
  have xf0 := free_blk (i := 0) HX4.out
  have xf1 := free_blk (i := 1) HX4.out
  have xf2 := free_blk (i := 2) HX4.out
  have xf3 := free_blk (i := 3) HX4.out
  have xf4 := free_blk (i := 4) HX4.out
  have xf5 := free_blk (i := 5) HX4.out
  have xf6 := free_blk (i := 6) HX4.out
  have xf7 := free_blk (i := 7) HX4.out
  have z0 := cell_blk (i := 0) HZ4.out
  have z1 := cell_blk (i := 1) HZ4.out
  have z2 := cell_blk (i := 2) HZ4.out
  have z3 := cell_blk (i := 3) HZ4.out
  have z4 := cell_blk (i := 4) HZ4.out
  have z5 := cell_blk (i := 5) HZ4.out
  have z6 := cell_blk (i := 6) HZ4.out
  have z7 := cell_blk (i := 7) HZ4.out
  simp [ckO] at z0 z1 z2 z3 z4 z5 z6 z7
  have zf0 := free_blk (i := 0) HZ4.out
  have zf1 := free_blk (i := 1) HZ4.out
  have zf2 := free_blk (i := 2) HZ4.out
  have zf3 := free_blk (i := 3) HZ4.out
  have zf4 := free_blk (i := 4) HZ4.out
  have zf5 := free_blk (i := 5) HZ4.out
  have zf6 := free_blk (i := 6) HZ4.out
  have zf7 := free_blk (i := 7) HZ4.out
  go_wp2
  exact bodyPost_ret (v := .tuple #[ckV 0 b m k 0 false n 0, .bool false, .int .i64 0]) (by simp [results, Tryd.results13, go_sem, x0, x1, x2, x3, x4, x5, x6, x7, z0, z1, z2, z3, z4, z5, z6, z7, xf0, xf1, xf2, xf3, xf4, xf5, xf6, xf7, zf0, zf1, zf2, zf3, zf4, zf5, zf6, zf7]) rfl ⟨rfl, (by repeat (first | (with_reducible exact HB4.out) | ((with_reducible refine Below.setCell ?_ ?_ _); rotate_left; focus (simp; done)) | (with_reducible refine below_dr ?_ _) | (with_reducible refine Below.drew ?_)))⟩

set_option maxHeartbeats 16000000 in
set_option maxRecDepth 100000 in
theorem stop_fell1 (a b m k s n : Int) (hn : askB a b m k 1 true s 2 n = true) (hf : fallB a b k 1 true s n = true) (w : World) : Calls Tryd.prog 13 #[ckV a b m k 1 true s 2, .int .i64 n] w fun e w' => e = .returned (.tuple #[ckV a 0 m k 1 false n 1, .bool false, .int .i64 0]) ∧ Below w.heap.size w w' := by
  obtain ⟨ha, hb, ha0, hb0, hm, hk, -, -, -, hs, hsn, hnT⟩ := ask_bd hn
  obtain ⟨w0, hw0⟩ : ∃ w0, w0 = (w.alloc (.cells #[.int .i64 a, .int .i64 b, .int .i64 m, .int .i64 k, .int .u8 1, .bool true, .int .i64 s, .int .u8 2] 24)).alloc (.cells #[.int .i64 0, .int .i64 0, .int .i64 0, .int .i64 0, .int .u8 0, .bool false, .int .i64 0, .int .u8 0] 24) := ⟨_, rfl⟩
  have HX0 : Hid (w0.heap[w.heap.size]? = some (.cells #[.int .i64 a, .int .i64 b, .int .i64 m, .int .i64 k, .int .u8 1, .bool true, .int .i64 s, .int .u8 2] 24 (0, 0))) := Lib.hid (by rw [hw0]; exact heap_older (heap_alloc_new _ _))
  have HZ0 : Hid (w0.heap[w.heap.size + 1]? = some (.cells #[.int .i64 0, .int .i64 0, .int .i64 0, .int .i64 0, .int .u8 0, .bool false, .int .i64 0, .int .u8 0] 24 (0, 0))) := Lib.hid (by rw [hw0]; exact heap_newer _ _ _ (by simp))
  have HB0 : Hid (Below w.heap.size w w0) := Lib.hid (by rw [hw0]; exact (box_below _ _).alloc (by simp) _)
  have HW0 := Lib.hid hw0
  clear hw0
  go_enter Tryd.func13, Tryd.ntmps13
  go_wp2_with fail
  refine (ask_any a b m k 1 true s 2 n _).mono ?_
  rintro e w2 ⟨rfl, hb2⟩
  rw [← HW0.out] at hb2
  have HX2 := Lib.hid ((hb2.block _ (heap_lt HX0.out)).trans HX0.out)
  have HZ2 := Lib.hid ((hb2.block _ (heap_lt HZ0.out)).trans HZ0.out)
  have HB2 := Lib.hid (HB0.out.trans (hb2.mono HB0.out.size))
  clear hb2
  have x0 := cell_blk (i := 0) HX2.out
  have x1 := cell_blk (i := 1) HX2.out
  have x2 := cell_blk (i := 2) HX2.out
  have x3 := cell_blk (i := 3) HX2.out
  have x4 := cell_blk (i := 4) HX2.out
  have x5 := cell_blk (i := 5) HX2.out
  have x6 := cell_blk (i := 6) HX2.out
  have x7 := cell_blk (i := 7) HX2.out
  simp [ckO] at x0 x1 x2 x3 x4 x5 x6 x7
  have xf0 := free_blk (i := 0) HX2.out
  have xf1 := free_blk (i := 1) HX2.out
  have xf2 := free_blk (i := 2) HX2.out
  have xf3 := free_blk (i := 3) HX2.out
  have xf4 := free_blk (i := 4) HX2.out
  have xf5 := free_blk (i := 5) HX2.out
  have xf6 := free_blk (i := 6) HX2.out
  have xf7 := free_blk (i := 7) HX2.out
  have z0 := cell_blk (i := 0) HZ2.out
  have z1 := cell_blk (i := 1) HZ2.out
  have z2 := cell_blk (i := 2) HZ2.out
  have z3 := cell_blk (i := 3) HZ2.out
  have z4 := cell_blk (i := 4) HZ2.out
  have z5 := cell_blk (i := 5) HZ2.out
  have z6 := cell_blk (i := 6) HZ2.out
  have z7 := cell_blk (i := 7) HZ2.out
  simp [ckO] at z0 z1 z2 z3 z4 z5 z6 z7
  have zf0 := free_blk (i := 0) HZ2.out
  have zf1 := free_blk (i := 1) HZ2.out
  have zf2 := free_blk (i := 2) HZ2.out
  have zf3 := free_blk (i := 3) HZ2.out
  have zf4 := free_blk (i := 4) HZ2.out
  have zf5 := free_blk (i := 5) HZ2.out
  have zf6 := free_blk (i := 6) HZ2.out
  have zf7 := free_blk (i := 7) HZ2.out
  go_wp2_with fail
  clear x0 x1 x2 x3 x4 x5 x6 x7 xf0 xf1 xf2 xf3 xf4 xf5 xf6 xf7 z0 z1 z2 z3 z4 z5 z6 z7 zf0 zf1 zf2 zf3 zf4 zf5 zf6 zf7
  refine (falls_on1 a b m k s 2 n hs hsn hnT _).mono ?_
  rintro e w4 ⟨rfl, hb2⟩
  have HX4 := Lib.hid ((hb2.block _ (heap_lt HX2.out)).trans HX2.out)
  have HZ4 := Lib.hid ((hb2.block _ (heap_lt HZ2.out)).trans HZ2.out)
  have HB4 := Lib.hid (HB2.out.trans (hb2.mono HB2.out.size))
  clear hb2
  have x0 := cell_blk (i := 0) HX4.out
  have x1 := cell_blk (i := 1) HX4.out
  have x2 := cell_blk (i := 2) HX4.out
  have x3 := cell_blk (i := 3) HX4.out
  have x4 := cell_blk (i := 4) HX4.out
  have x5 := cell_blk (i := 5) HX4.out
  have x6 := cell_blk (i := 6) HX4.out
  have x7 := cell_blk (i := 7) HX4.out
  simp [ckO] at x0 x1 x2 x3 x4 x5 x6 x7
  have xf0 := free_blk (i := 0) HX4.out
  have xf1 := free_blk (i := 1) HX4.out
  have xf2 := free_blk (i := 2) HX4.out
  have xf3 := free_blk (i := 3) HX4.out
  have xf4 := free_blk (i := 4) HX4.out
  have xf5 := free_blk (i := 5) HX4.out
  have xf6 := free_blk (i := 6) HX4.out
  have xf7 := free_blk (i := 7) HX4.out
  have z0 := cell_blk (i := 0) HZ4.out
  have z1 := cell_blk (i := 1) HZ4.out
  have z2 := cell_blk (i := 2) HZ4.out
  have z3 := cell_blk (i := 3) HZ4.out
  have z4 := cell_blk (i := 4) HZ4.out
  have z5 := cell_blk (i := 5) HZ4.out
  have z6 := cell_blk (i := 6) HZ4.out
  have z7 := cell_blk (i := 7) HZ4.out
  simp [ckO] at z0 z1 z2 z3 z4 z5 z6 z7
  have zf0 := free_blk (i := 0) HZ4.out
  have zf1 := free_blk (i := 1) HZ4.out
  have zf2 := free_blk (i := 2) HZ4.out
  have zf3 := free_blk (i := 3) HZ4.out
  have zf4 := free_blk (i := 4) HZ4.out
  have zf5 := free_blk (i := 5) HZ4.out
  have zf6 := free_blk (i := 6) HZ4.out
  have zf7 := free_blk (i := 7) HZ4.out
  go_wp2
  exact bodyPost_ret (v := .tuple #[ckV a 0 m k 1 false n 1, .bool false, .int .i64 0]) (by simp [results, Tryd.results13, go_sem, x0, x1, x2, x3, x4, x5, x6, x7, z0, z1, z2, z3, z4, z5, z6, z7, xf0, xf1, xf2, xf3, xf4, xf5, xf6, xf7, zf0, zf1, zf2, zf3, zf4, zf5, zf6, zf7]) rfl ⟨rfl, (by repeat (first | (with_reducible exact HB4.out) | ((with_reducible refine Below.setCell ?_ ?_ _); rotate_left; focus (simp; done)) | (with_reducible refine below_dr ?_ _) | (with_reducible refine Below.drew ?_)))⟩

end Go.Proofs.YtcemekianoehfaaDoor
