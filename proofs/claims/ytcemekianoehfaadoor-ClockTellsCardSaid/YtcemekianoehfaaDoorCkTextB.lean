/- clock.Text, where one falls, and whole: walked. (Made by gen/mkck.py.) -/
import Derived.Test.YtcemekianoehfaaDoorCkTextA
namespace Go.Proofs.YtcemekianoehfaaDoor
open Go.RowKit Go.Lib Go.Sort

set_option maxHeartbeats 16000000 in
set_option maxRecDepth 100000 in
theorem text_fell (a b m k : Int) (h : Nat) (on : Bool) (s : Int) (f : Nat) (n : Int) (x y : Nat) (hx : x ≤ 1073741824) (hy : y ≤ 1073741824) (hL : lookC a b m k h on s f n = ((x : Int), (y : Int), true, 0)) (w : World) (hT : PTab w) : Calls Tryd.prog 9 #[ckV a b m k h on s f, .int .i64 n] w fun e w' => e = .returned (.string (joinS x y (mkS h 0 false h) (mkS h 1 false h))) ∧ Below w.heap.size w w' := by
  have s1 := min_size hx
  have s2 := min_size hy
  have s3 := mk_size h 0 false h
  have s4 := mk_size h 1 false h
  have c1 := fun W => minutes_any x hx W
  have c2 := fun W => minutes_any y hy W
  have c3 := fun W => mark_0 a b m k h false s h W
  have c4 := fun W => mark_1 a b m k h false s h W
  have hj : joinS x y (mkS h 0 false h) (mkS h 1 false h) = minS x ++ mkS h 0 false h ++ ⟨#[32]⟩ ++ minS y ++ mkS h 1 false h := rfl
  generalize joinS x y (mkS h 0 false h) (mkS h 1 false h) = J at *
  generalize mkS h 0 false h = M0 at *
  generalize mkS h 1 false h = M1 at *
  generalize minS x = X at *
  generalize minS y = Y at *
  have n1 : ¬ 9223372036854775807 < X.size + M0.size := by omega
  have n2 : ¬ 9223372036854775807 < X.size + M0.size + 1 := by omega
  have n3 : ¬ 9223372036854775807 < X.size + M0.size + 1 + Y.size := by omega
  have n4 : ¬ 9223372036854775807 < X.size + M0.size + 1 + Y.size + M1.size := by omega
  have HJ := Lib.hid hj
  have C1 := Lib.hid c1
  have C2 := Lib.hid c2
  have C3 := Lib.hid c3
  have C4 := Lib.hid c4
  clear c1 c2 c3 c4 hj s1 s2 s3 s4
  have hcall := fun W => look_any a b m k h on s f n W
  rw [hL] at hcall
  have HK := Lib.hid hcall
  clear hcall
  obtain ⟨w0, hw0⟩ : ∃ w0, w0 = w.alloc (.cells #[.int .i64 a, .int .i64 b, .int .i64 m, .int .i64 k, .int .u8 h, .bool on, .int .i64 s, .int .u8 f] 24) := ⟨_, rfl⟩
  have HX0 : Hid (w0.heap[w.heap.size]? = some (.cells #[.int .i64 a, .int .i64 b, .int .i64 m, .int .i64 k, .int .u8 h, .bool on, .int .i64 s, .int .u8 f] 24 (0, 0))) := Lib.hid (by rw [hw0]; exact heap_alloc_new _ _)
  have HB0 : Hid (Below w.heap.size w w0) := Lib.hid (by rw [hw0]; exact box_below _ _)
  have HW0 := Lib.hid hw0
  clear hw0
  go_enter Tryd.func9, Tryd.ntmps9
  go_wp2_with fail
  refine (HK.out _).mono ?_
  rintro e w2 ⟨rfl, hb2⟩
  rw [← HW0.out] at hb2
  have HX2 := Lib.hid ((hb2.block _ (heap_lt HX0.out)).trans HX0.out)
  have HB2 := Lib.hid (HB0.out.trans (hb2.mono HB0.out.size))
  clear hb2
  have hl0 := heap_lt HX2.out
  have x0 := cell_blk (i := 0) HX2.out
  have x1 := cell_blk (i := 1) HX2.out
  have x2 := cell_blk (i := 2) HX2.out
  have x3 := cell_blk (i := 3) HX2.out
  have x4 := cell_blk (i := 4) HX2.out
  have x5 := cell_blk (i := 5) HX2.out
  have x6 := cell_blk (i := 6) HX2.out
  have x7 := cell_blk (i := 7) HX2.out
  simp [ckO] at x0 x1 x2 x3 x4 x5 x6 x7
  have xf0 := free_blk (i := 0) HX2.out
  have xf1 := free_blk (i := 1) HX2.out
  have xf2 := free_blk (i := 2) HX2.out
  have xf3 := free_blk (i := 3) HX2.out
  have xf4 := free_blk (i := 4) HX2.out
  have xf5 := free_blk (i := 5) HX2.out
  have xf6 := free_blk (i := 6) HX2.out
  have xf7 := free_blk (i := 7) HX2.out
  go_wp2
  obtain ⟨w4, hw4⟩ : ∃ w4, w4 = (w2.setCell ⟨w.heap.size, 5, none⟩ (.bool false)).setCell ⟨w.heap.size, 7, none⟩ (.int .u8 h) := ⟨_, rfl⟩
  rw [← hw4]
  have HX4 := Lib.hid (show w4.heap[w.heap.size]? = some (.cells #[.int .i64 a, .int .i64 b, .int .i64 m, .int .i64 k, .int .u8 h, .bool false, .int .i64 s, .int .u8 h] 24 (0, 0)) by rw [hw4, heap_set (i := 7) (heap_set (i := 5) HX2.out _)]; rfl)
  have HB4 := Lib.hid (show Below w.heap.size w w4 by rw [hw4]; exact (HB2.out.setCell (Nat.le_refl _) _).setCell (Nat.le_refl _) _)
  have hz4 : w2.heap.size = w4.heap.size := by rw [hw4]; simp [World.setCell]
  clear hw4
  rw [hz4]
  obtain ⟨w6, hw6⟩ : ∃ w6, w6 = w4.alloc (.cells #[.int .i64 (x : Int), .int .i64 (y : Int)] 22) := ⟨_, rfl⟩
  rw [← hw6]
  clear hz4
  have HX6 := Lib.hid (show w6.heap[w.heap.size]? = some (.cells #[.int .i64 a, .int .i64 b, .int .i64 m, .int .i64 k, .int .u8 h, .bool false, .int .i64 s, .int .u8 h] 24 (0, 0)) by rw [hw6]; exact heap_older HX4.out)
  have HL6 := Lib.hid (show w6.heap[w4.heap.size]? = some (.cells #[.int .i64 (x : Int), .int .i64 (y : Int)] 22 (0, 0)) by rw [hw6]; exact heap_alloc_new _ _)
  have HB6 := Lib.hid (show Below w.heap.size w w6 by rw [hw6]; exact HB4.out.alloc HB4.out.size _)
  have HT6 := Lib.hid (hT.below HB6.out)
  clear hw6
  clear x0 x1 x2 x3 x4 x5 x6 x7 xf0 xf1 xf2 xf3 xf4 xf5 xf6 xf7
  have x0 := far_cell HX6.out 0 rfl
  have x1 := far_cell HX6.out 1 rfl
  have x2 := far_cell HX6.out 2 rfl
  have x3 := far_cell HX6.out 3 rfl
  have x4 := far_cell HX6.out 4 rfl
  have x5 := far_cell HX6.out 5 rfl
  have x6 := far_cell HX6.out 6 rfl
  have x7 := far_cell HX6.out 7 rfl
  simp [ckO] at x0 x1 x2 x3 x4 x5 x6 x7
  have l0 := far_cell HL6.out 0 rfl
  have l1 := far_cell HL6.out 1 rfl
  simp [ckO] at l0 l1
  refine wp_region_quiet_below (by kernel_rfl) (by kernel_rfl) ?_
  repeat (quiet_step (first | (go_at_call 22; with_reducible exact Calls.regrown_of (C1.out _ (HT6.out.below (below_regrown _ _ _)))) | (go_at_call 22; with_reducible exact Calls.regrown_of (C2.out _ (HT6.out.below (below_regrown _ _ _)))) | (go_at_call 23; with_reducible exact Calls.regrown_of (C3.out _)) | (go_at_call 23; with_reducible exact Calls.regrown_of (C4.out _))))
  refine wpQuiet_nil ?_
  intro _ hw'
  obtain ⟨⟨dq, osq⟩, hw''⟩ := hw'
  subst hw''
  go_wp2
  go_ret
  exact ⟨by rw [HJ.out]; rfl, HB6.out.trans ((below_regrown _ _ _).mono HB6.out.size)⟩

theorem text_any (a b m k : Int) (h : Nat) (on : Bool) (s : Int) (f : Nat) (n : Int) (w : World) (hT : PTab w) : Calls Tryd.prog 9 #[ckV a b m k h on s f, .int .i64 n] w fun e w' => e = .returned (.string (textC a b m k h on s f n)) ∧ Below w.heap.size w w' := by
  unfold textC
  cases hn : askB a b m k h on s f n
  · rw [if_neg (by simp)]
    exact text_no a b m k h on s f n (lookC_no hn) w
  · rw [if_pos rfl]
    obtain ⟨x, y, hx, hy, hL⟩ := look_ok hn
    rw [hL]
    cases hf : fallB a b k h on s n
    · rw [hf] at hL
      rw [if_neg (by simp)]
      exact text_run a b m k h on s f n x y hx hy hL w hT
    · rw [hf] at hL
      rw [if_pos rfl]
      exact text_fell a b m k h on s f n x y hx hy hL w hT
end Go.Proofs.YtcemekianoehfaaDoor
