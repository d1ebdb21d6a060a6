/- joustlaw28.ClockTells: walked. (Made by gen/mkck.py.) -/
import Derived.Test.YtcemekianoehfaaDoorCkLives
import Derived.Test.YtcemekianoehfaaDoorCkRNew
import Derived.Test.YtcemekianoehfaaDoorCkRWhen
import Derived.Test.YtcemekianoehfaaDoorCkRText
namespace Go.Proofs.YtcemekianoehfaaDoor
open Go.RowKit Go.Lib Go.Sort

set_option maxHeartbeats 32000000 in
set_option maxRecDepth 100000 in
theorem tells_any (a b m k : Int) (h : Nat) (on : Bool) (s : Int) (f : Nat) (hg : f < 256) (base more most : Int) (who : Nat) (n : Int) (w : World) (hT : PTab w) : Calls Tryd.prog 3 #[ckV a b m k h on s f, .int .i64 base, .int .i64 more, .int .i64 most, .int .u8 who, .int .i64 n] w fun e w' => e = .returned (.bool true) ∧ Below w.heap.size w w' := by
  have g1 := fun W => new_any base more most W
  have g2 := fun W => rnew_any base more most W
  generalize newC base more most = x at g1 g2
  obtain ⟨⟨n0, n1, n2, n3, n4, n5, n6, n7⟩, ne⟩ := x
  have HN1 := Lib.hid (show ∀ W, Calls Tryd.prog 5 #[.int .i64 base, .int .i64 more, .int .i64 most] W fun e w' => e = .returned (.tuple #[.agg #[.int .i64 n0, .int .i64 n1, .int .i64 n2, .int .i64 n3, .int .u8 n4, .bool n5, .int .i64 n6, .int .u8 n7], .int .i64 ne]) ∧ Below W.heap.size W w' from g1)
  have HN2 := Lib.hid (show ∀ W, Calls Tryd.prog 6 #[.int .i64 base, .int .i64 more, .int .i64 most] W fun e w' => e = .returned (.tuple #[.agg #[.int .i64 n0, .int .i64 n1, .int .i64 n2, .int .i64 n3, .int .u8 n4, .bool n5, .int .i64 n6, .int .u8 n7], .int .i64 ne]) ∧ Below W.heap.size W w' from g2)
  clear g1 g2
  have g1 := fun W => start_any a b m k h on s f who n W
  have g2 := fun W => rstart_any a b m k h on s f hg who n W
  generalize startC a b m k h on s f who n = x at g1 g2
  obtain ⟨⟨s0, s1, s2, s3, s4, s5, s6, s7⟩, se⟩ := x
  have HS1 := Lib.hid (show ∀ W, Calls Tryd.prog 11 #[.agg #[.int .i64 a, .int .i64 b, .int .i64 m, .int .i64 k, .int .u8 h, .bool on, .int .i64 s, .int .u8 f], .int .u8 who, .int .i64 n] W fun e w' => e = .returned (.tuple #[.agg #[.int .i64 s0, .int .i64 s1, .int .i64 s2, .int .i64 s3, .int .u8 s4, .bool s5, .int .i64 s6, .int .u8 s7], .int .i64 se]) ∧ Below W.heap.size W w' from g1)
  have HS2 := Lib.hid (show ∀ W, Calls Tryd.prog 12 #[.agg #[.int .i64 a, .int .i64 b, .int .i64 m, .int .i64 k, .int .u8 h, .bool on, .int .i64 s, .int .u8 f], .int .u8 who, .int .i64 n] W fun e w' => e = .returned (.tuple #[.agg #[.int .i64 s0, .int .i64 s1, .int .i64 s2, .int .i64 s3, .int .u8 s4, .bool s5, .int .i64 s6, .int .u8 s7], .int .i64 se]) ∧ Below W.heap.size W w' from g2)
  clear g1 g2
  have g1 := fun W => stop_any a b m k h on s f n W
  have g2 := fun W => rstop_any a b m k h on s f hg n W
  generalize stopC a b m k h on s f n = x at g1 g2
  obtain ⟨⟨p0, p1, p2, p3, p4, p5, p6, p7⟩, pb, pe⟩ := x
  have HP1 := Lib.hid (show ∀ W, Calls Tryd.prog 13 #[.agg #[.int .i64 a, .int .i64 b, .int .i64 m, .int .i64 k, .int .u8 h, .bool on, .int .i64 s, .int .u8 f], .int .i64 n] W fun e w' => e = .returned (.tuple #[.agg #[.int .i64 p0, .int .i64 p1, .int .i64 p2, .int .i64 p3, .int .u8 p4, .bool p5, .int .i64 p6, .int .u8 p7], .bool pb, .int .i64 pe]) ∧ Below W.heap.size W w' from g1)
  have HP2 := Lib.hid (show ∀ W, Calls Tryd.prog 14 #[.agg #[.int .i64 a, .int .i64 b, .int .i64 m, .int .i64 k, .int .u8 h, .bool on, .int .i64 s, .int .u8 f], .int .i64 n] W fun e w' => e = .returned (.tuple #[.agg #[.int .i64 p0, .int .i64 p1, .int .i64 p2, .int .i64 p3, .int .u8 p4, .bool p5, .int .i64 p6, .int .u8 p7], .bool pb, .int .i64 pe]) ∧ Below W.heap.size W w' from g2)
  clear g1 g2
  have g1 := fun W => look_any a b m k h on s f n W
  have g2 := fun W => rlook_any a b m k h on s f hg n W
  generalize lookC a b m k h on s f n = x at g1 g2
  obtain ⟨lx, ly, lb, le⟩ := x
  have HK1 := Lib.hid (show ∀ W, Calls Tryd.prog 15 #[.agg #[.int .i64 a, .int .i64 b, .int .i64 m, .int .i64 k, .int .u8 h, .bool on, .int .i64 s, .int .u8 f], .int .i64 n] W fun e w' => e = .returned (.tuple #[twoV lx ly, .bool lb, .int .i64 le]) ∧ Below W.heap.size W w' from g1)
  have HK2 := Lib.hid (show ∀ W, Calls Tryd.prog 16 #[.agg #[.int .i64 a, .int .i64 b, .int .i64 m, .int .i64 k, .int .u8 h, .bool on, .int .i64 s, .int .u8 f], .int .i64 n] W fun e w' => e = .returned (.tuple #[twoV lx ly, .bool lb, .int .i64 le]) ∧ Below W.heap.size W w' from g2)
  clear g1 g2
  have g1 := fun W => when_any a b m k h on s f W
  have g2 := fun W => rwhen_any a b m k h on s f hg W
  generalize whenC a b m k h on s f = x at g1 g2
  obtain ⟨wn, wb⟩ := x
  have HH1 := Lib.hid (show ∀ W, Calls Tryd.prog 17 #[.agg #[.int .i64 a, .int .i64 b, .int .i64 m, .int .i64 k, .int .u8 h, .bool on, .int .i64 s, .int .u8 f]] W fun e w' => e = .returned (.tuple #[.int .i64 wn, .bool wb]) ∧ Below W.heap.size W w' from g1)
  have HH2 := Lib.hid (show ∀ W, Calls Tryd.prog 18 #[.agg #[.int .i64 a, .int .i64 b, .int .i64 m, .int .i64 k, .int .u8 h, .bool on, .int .i64 s, .int .u8 f]] W fun e w' => e = .returned (.tuple #[.int .i64 wn, .bool wb]) ∧ Below W.heap.size W w' from g2)
  clear g1 g2
  have g1 := fun W => may_any a b m k h on s f W
  have g2 := fun W => rmay_any a b m k h on s f hg W
  generalize mayB a b m k h on s f = mb at g1 g2
  have HM1 := Lib.hid (show ∀ W, Calls Tryd.prog 7 #[.agg #[.int .i64 a, .int .i64 b, .int .i64 m, .int .i64 k, .int .u8 h, .bool on, .int .i64 s, .int .u8 f]] W fun e w' => e = .returned (.bool mb) ∧ Below W.heap.size W w' from g1)
  have HM2 := Lib.hid (show ∀ W, Calls Tryd.prog 8 #[.agg #[.int .i64 a, .int .i64 b, .int .i64 m, .int .i64 k, .int .u8 h, .bool on, .int .i64 s, .int .u8 f]] W fun e w' => e = .returned (.bool mb) ∧ Below W.heap.size W w' from g2)
  clear g1 g2
  have g1 := fun W => text_any a b m k h on s f n W
  have g2 := fun W => rtext_any a b m k h on s f hg n W
  generalize textC a b m k h on s f n = tx at g1 g2
  have HT1 := Lib.hid (show ∀ W, PTab W → Calls Tryd.prog 9 #[.agg #[.int .i64 a, .int .i64 b, .int .i64 m, .int .i64 k, .int .u8 h, .bool on, .int .i64 s, .int .u8 f], .int .i64 n] W fun e w' => e = .returned (.string tx) ∧ Below W.heap.size W w' from g1)
  have HT2 := Lib.hid (show ∀ W, Calls Tryd.prog 10 #[.agg #[.int .i64 a, .int .i64 b, .int .i64 m, .int .i64 k, .int .u8 h, .bool on, .int .i64 s, .int .u8 f], .int .i64 n] W fun e w' => e = .returned (.string tx) ∧ Below W.heap.size W w' from g2)
  clear g1 g2 hg
  obtain ⟨w0, hw0⟩ : ∃ w0, w0 = w.alloc (.cells #[.int .i64 a, .int .i64 b, .int .i64 m, .int .i64 k, .int .u8 h, .bool on, .int .i64 s, .int .u8 f] 24) := ⟨_, rfl⟩
  have HX0 : Hid (w0.heap[w.heap.size]? = some (.cells #[.int .i64 a, .int .i64 b, .int .i64 m, .int .i64 k, .int .u8 h, .bool on, .int .i64 s, .int .u8 f] 24 (0, 0))) := Lib.hid (by rw [hw0]; exact heap_alloc_new _ _)
  have HB0 : Hid (Below w.heap.size w w0) := Lib.hid (by rw [hw0]; exact box_below _ _)
  have HW0 := Lib.hid hw0
  clear hw0
  have HPT := Lib.hid hT
  clear hT
  have q1 := fun W => (show Sem.run Tryd.prog (Op.equalIn 10000 24 (.agg #[.int .i64 n0, .int .i64 n1, .int .i64 n2, .int .i64 n3, .int .u8 n4, .bool n5, .int .i64 n6, .int .u8 n7]) (.agg #[.int .i64 n0, .int .i64 n1, .int .i64 n2, .int .i64 n3, .int .u8 n4, .bool n5, .int .i64 n6, .int .u8 n7])) W = .ok true W from ck_eq (n0) (n1) (n2) (n3) (n4) (n5) (n6) (n7) W)
  have q2 := fun W => (show Sem.run Tryd.prog (Op.equalIn 10000 24 (.agg #[.int .i64 s0, .int .i64 s1, .int .i64 s2, .int .i64 s3, .int .u8 s4, .bool s5, .int .i64 s6, .int .u8 s7]) (.agg #[.int .i64 s0, .int .i64 s1, .int .i64 s2, .int .i64 s3, .int .u8 s4, .bool s5, .int .i64 s6, .int .u8 s7])) W = .ok true W from ck_eq (s0) (s1) (s2) (s3) (s4) (s5) (s6) (s7) W)
  have q3 := fun W => (show Sem.run Tryd.prog (Op.equalIn 10000 24 (.agg #[.int .i64 p0, .int .i64 p1, .int .i64 p2, .int .i64 p3, .int .u8 p4, .bool p5, .int .i64 p6, .int .u8 p7]) (.agg #[.int .i64 p0, .int .i64 p1, .int .i64 p2, .int .i64 p3, .int .u8 p4, .bool p5, .int .i64 p6, .int .u8 p7])) W = .ok true W from ck_eq (p0) (p1) (p2) (p3) (p4) (p5) (p6) (p7) W)
  have q4 := fun W => two_eq lx ly W
  go_enter Tryd.func3, Tryd.ntmps3
  go_wp2_with fail
  refine (HN1.out _).mono ?_
  rintro e w1 ⟨rfl, b1⟩
  rw [← HW0.out] at b1
  have HX1 := Lib.hid ((b1.block _ (heap_lt HX0.out)).trans HX0.out)
  have HB1 := Lib.hid (HB0.out.trans (b1.mono HB0.out.size))
  clear b1
  go_wp2_with fail
  obtain ⟨w2, hw2⟩ : ∃ w2, w2 = w1.alloc (.cells #[.int .i64 n0, .int .i64 n1, .int .i64 n2, .int .i64 n3, .int .u8 n4, .bool n5, .int .i64 n6, .int .u8 n7] 24) := ⟨_, rfl⟩
  rw [← hw2]
  have HX2 := Lib.hid (show w2.heap[w.heap.size]? = some (.cells #[.int .i64 a, .int .i64 b, .int .i64 m, .int .i64 k, .int .u8 h, .bool on, .int .i64 s, .int .u8 f] 24 (0, 0)) by rw [hw2]; exact heap_older HX1.out)
  have HA2 := Lib.hid (show w2.heap[w1.heap.size]? = some (.cells #[.int .i64 n0, .int .i64 n1, .int .i64 n2, .int .i64 n3, .int .u8 n4, .bool n5, .int .i64 n6, .int .u8 n7] 24 (0, 0)) by rw [hw2]; exact heap_alloc_new _ _)
  have HB2 := Lib.hid (show Below w.heap.size w w2 by rw [hw2]; exact HB1.out.alloc HB1.out.size _)
  clear hw2
  refine (HN2.out _).mono ?_
  rintro e w3 ⟨rfl, b3⟩
  have HX3 := Lib.hid ((b3.block _ (heap_lt HX2.out)).trans HX2.out)
  have HA3 := Lib.hid ((b3.block _ (heap_lt HA2.out)).trans HA2.out)
  have HB3 := Lib.hid (HB2.out.trans (b3.mono HB2.out.size))
  clear b3
  go_wp2
  obtain ⟨w4, hw4⟩ : ∃ w4, w4 = w3.alloc (.cells #[.int .i64 n0, .int .i64 n1, .int .i64 n2, .int .i64 n3, .int .u8 n4, .bool n5, .int .i64 n6, .int .u8 n7] 24) := ⟨_, rfl⟩
  rw [← hw4]
  have HX4 := Lib.hid (show w4.heap[w.heap.size]? = some (.cells #[.int .i64 a, .int .i64 b, .int .i64 m, .int .i64 k, .int .u8 h, .bool on, .int .i64 s, .int .u8 f] 24 (0, 0)) by rw [hw4]; exact heap_older HX3.out)
  have HA4 := Lib.hid (show w4.heap[w1.heap.size]? = some (.cells #[.int .i64 n0, .int .i64 n1, .int .i64 n2, .int .i64 n3, .int .u8 n4, .bool n5, .int .i64 n6, .int .u8 n7] 24 (0, 0)) by rw [hw4]; exact heap_older HA3.out)
  have HC4 := Lib.hid (show w4.heap[w3.heap.size]? = some (.cells #[.int .i64 n0, .int .i64 n1, .int .i64 n2, .int .i64 n3, .int .u8 n4, .bool n5, .int .i64 n6, .int .u8 n7] 24 (0, 0)) by rw [hw4]; exact heap_alloc_new _ _)
  have HB4 := Lib.hid (show Below w.heap.size w w4 by rw [hw4]; exact HB3.out.alloc HB3.out.size _)
  clear hw4
  have hd1 := heap_lt HX1.out
  have hd2 := heap_lt HA3.out
  have x0 := far_cell HX4.out 0 rfl
  have x1 := far_cell HX4.out 1 rfl
  have x2 := far_cell HX4.out 2 rfl
  have x3 := far_cell HX4.out 3 rfl
  have x4 := far_cell HX4.out 4 rfl
  have x5 := far_cell HX4.out 5 rfl
  have x6 := far_cell HX4.out 6 rfl
  have x7 := far_cell HX4.out 7 rfl
  simp [ckO] at x0 x1 x2 x3 x4 x5 x6 x7
  have a0 := far_cell HA4.out 0 rfl
  have a1 := far_cell HA4.out 1 rfl
  have a2 := far_cell HA4.out 2 rfl
  have a3 := far_cell HA4.out 3 rfl
  have a4 := far_cell HA4.out 4 rfl
  have a5 := far_cell HA4.out 5 rfl
  have a6 := far_cell HA4.out 6 rfl
  have a7 := far_cell HA4.out 7 rfl
  simp [ckO] at a0 a1 a2 a3 a4 a5 a6 a7
  have c0 := far_cell HC4.out 0 rfl
  have c1 := far_cell HC4.out 1 rfl
  have c2 := far_cell HC4.out 2 rfl
  have c3 := far_cell HC4.out 3 rfl
  have c4 := far_cell HC4.out 4 rfl
  have c5 := far_cell HC4.out 5 rfl
  have c6 := far_cell HC4.out 6 rfl
  have c7 := far_cell HC4.out 7 rfl
  simp [ckO] at c0 c1 c2 c3 c4 c5 c6 c7
  have HPT4 := Lib.hid (HPT.out.below HB4.out)
  refine wp_region_quiet_below (by kernel_rfl) (by kernel_rfl) ?_
  repeat (quiet_step (first | (go_at_call 7; with_reducible exact Calls.regrown_of (HM1.out _)) | (go_at_call 8; with_reducible exact Calls.regrown_of (HM2.out _)) | (go_at_call 9; with_reducible exact Calls.regrown_of (HT1.out _ (HPT4.out.below (below_regrown _ _ _)))) | (go_at_call 10; with_reducible exact Calls.regrown_of (HT2.out _))))
  refine wpQuiet_nil ?_
  intro _ hw'
  obtain ⟨⟨dq, osq⟩, hw''⟩ := hw'
  subst hw''
  go_wp2_with fail
  obtain ⟨w5, hw5⟩ : ∃ w5, w5 = grow (redrawn w4 dq) osq := ⟨_, rfl⟩
  have b5 : Below w4.heap.size w4 w5 := by rw [hw5]; exact below_regrown _ _ _
  rw [← hw5]
  clear hw5
  have HX5 := Lib.hid ((b5.block _ (heap_lt HX4.out)).trans HX4.out)
  have HA5 := Lib.hid ((b5.block _ (heap_lt HA4.out)).trans HA4.out)
  have HC5 := Lib.hid ((b5.block _ (heap_lt HC4.out)).trans HC4.out)
  have HB5 := Lib.hid (HB4.out.trans (b5.mono HB4.out.size))
  clear b5
  clear x0 x1 x2 x3 x4 x5 x6 x7 a0 a1 a2 a3 a4 a5 a6 a7 c0 c1 c2 c3 c4 c5 c6 c7
  refine (HS1.out _).mono ?_
  rintro e w6 ⟨rfl, b1⟩
  have HX6 := Lib.hid ((b1.block _ (heap_lt HX5.out)).trans HX5.out)
  have HA6 := Lib.hid ((b1.block _ (heap_lt HA5.out)).trans HA5.out)
  have HC6 := Lib.hid ((b1.block _ (heap_lt HC5.out)).trans HC5.out)
  have HB6 := Lib.hid (HB5.out.trans (b1.mono HB5.out.size))
  clear b1
  have x0 := cell_blk (i := 0) HX6.out
  have x1 := cell_blk (i := 1) HX6.out
  have x2 := cell_blk (i := 2) HX6.out
  have x3 := cell_blk (i := 3) HX6.out
  have x4 := cell_blk (i := 4) HX6.out
  have x5 := cell_blk (i := 5) HX6.out
  have x6 := cell_blk (i := 6) HX6.out
  have x7 := cell_blk (i := 7) HX6.out
  simp [ckO] at x0 x1 x2 x3 x4 x5 x6 x7
  have a0 := cell_blk (i := 0) HA6.out
  have a1 := cell_blk (i := 1) HA6.out
  have a2 := cell_blk (i := 2) HA6.out
  have a3 := cell_blk (i := 3) HA6.out
  have a4 := cell_blk (i := 4) HA6.out
  have a5 := cell_blk (i := 5) HA6.out
  have a6 := cell_blk (i := 6) HA6.out
  have a7 := cell_blk (i := 7) HA6.out
  simp [ckO] at a0 a1 a2 a3 a4 a5 a6 a7
  have af0 := free_blk (i := 0) HA6.out
  have af1 := free_blk (i := 1) HA6.out
  have af2 := free_blk (i := 2) HA6.out
  have af3 := free_blk (i := 3) HA6.out
  have af4 := free_blk (i := 4) HA6.out
  have af5 := free_blk (i := 5) HA6.out
  have af6 := free_blk (i := 6) HA6.out
  have af7 := free_blk (i := 7) HA6.out
  go_wp2_with fail
  obtain ⟨w7, hw7⟩ : ∃ w7, w7 = ((((((((w6).setCell ⟨w1.heap.size, 0, none⟩ (.int .i64 s0)).setCell ⟨w1.heap.size, 1, none⟩ (.int .i64 s1)).setCell ⟨w1.heap.size, 2, none⟩ (.int .i64 s2)).setCell ⟨w1.heap.size, 3, none⟩ (.int .i64 s3)).setCell ⟨w1.heap.size, 4, none⟩ (.int .u8 s4)).setCell ⟨w1.heap.size, 5, none⟩ (.bool s5)).setCell ⟨w1.heap.size, 6, none⟩ (.int .i64 s6)).setCell ⟨w1.heap.size, 7, none⟩ (.int .u8 s7) := ⟨_, rfl⟩
  rw [← hw7]
  have HX7 := Lib.hid (show w7.heap[w.heap.size]? = some (.cells #[.int .i64 a, .int .i64 b, .int .i64 m, .int .i64 k, .int .u8 h, .bool on, .int .i64 s, .int .u8 f] 24 (0, 0)) by rw [hw7]; rw [heap_set_far (by show _ ≠ _; dsimp only; omega), heap_set_far (by show _ ≠ _; dsimp only; omega), heap_set_far (by show _ ≠ _; dsimp only; omega), heap_set_far (by show _ ≠ _; dsimp only; omega), heap_set_far (by show _ ≠ _; dsimp only; omega), heap_set_far (by show _ ≠ _; dsimp only; omega), heap_set_far (by show _ ≠ _; dsimp only; omega), heap_set_far (by show _ ≠ _; dsimp only; omega)]; exact HX6.out)
  have HA7 := Lib.hid (show w7.heap[w1.heap.size]? = some (.cells #[.int .i64 s0, .int .i64 s1, .int .i64 s2, .int .i64 s3, .int .u8 s4, .bool s5, .int .i64 s6, .int .u8 s7] 24 (0, 0)) by rw [hw7]; rw [(heap_set (i := 7) (heap_set (i := 6) (heap_set (i := 5) (heap_set (i := 4) (heap_set (i := 3) (heap_set (i := 2) (heap_set (i := 1) (heap_set (i := 0) HA6.out _) _) _) _) _) _) _) _)]; rfl)
  have HC7 := Lib.hid (show w7.heap[w3.heap.size]? = some (.cells #[.int .i64 n0, .int .i64 n1, .int .i64 n2, .int .i64 n3, .int .u8 n4, .bool n5, .int .i64 n6, .int .u8 n7] 24 (0, 0)) by rw [hw7]; rw [heap_set_far (by show _ ≠ _; dsimp only; omega), heap_set_far (by show _ ≠ _; dsimp only; omega), heap_set_far (by show _ ≠ _; dsimp only; omega), heap_set_far (by show _ ≠ _; dsimp only; omega), heap_set_far (by show _ ≠ _; dsimp only; omega), heap_set_far (by show _ ≠ _; dsimp only; omega), heap_set_far (by show _ ≠ _; dsimp only; omega), heap_set_far (by show _ ≠ _; dsimp only; omega)]; exact HC6.out)
  have HB7 := Lib.hid (show Below w.heap.size w w7 by rw [hw7]; exact ((((((((HB6.out.setCell (HB1.out.size) _).setCell (HB1.out.size) _).setCell (HB1.out.size) _).setCell (HB1.out.size) _).setCell (HB1.out.size) _).setCell (HB1.out.size) _).setCell (HB1.out.size) _).setCell (HB1.out.size) _))
  clear hw7
  clear x0 x1 x2 x3 x4 x5 x6 x7 a0 a1 a2 a3 a4 a5 a6 a7 af0 af1 af2 af3 af4 af5 af6 af7
  refine (HS2.out _).mono ?_
  rintro e w8 ⟨rfl, b3⟩
  have HX8 := Lib.hid ((b3.block _ (heap_lt HX7.out)).trans HX7.out)
  have HA8 := Lib.hid ((b3.block _ (heap_lt HA7.out)).trans HA7.out)
  have HC8 := Lib.hid ((b3.block _ (heap_lt HC7.out)).trans HC7.out)
  have HB8 := Lib.hid (HB7.out.trans (b3.mono HB7.out.size))
  clear b3
  have x0 := cell_blk (i := 0) HX8.out
  have x1 := cell_blk (i := 1) HX8.out
  have x2 := cell_blk (i := 2) HX8.out
  have x3 := cell_blk (i := 3) HX8.out
  have x4 := cell_blk (i := 4) HX8.out
  have x5 := cell_blk (i := 5) HX8.out
  have x6 := cell_blk (i := 6) HX8.out
  have x7 := cell_blk (i := 7) HX8.out
  simp [ckO] at x0 x1 x2 x3 x4 x5 x6 x7
  have a0 := cell_blk (i := 0) HA8.out
  have a1 := cell_blk (i := 1) HA8.out
  have a2 := cell_blk (i := 2) HA8.out
  have a3 := cell_blk (i := 3) HA8.out
  have a4 := cell_blk (i := 4) HA8.out
  have a5 := cell_blk (i := 5) HA8.out
  have a6 := cell_blk (i := 6) HA8.out
  have a7 := cell_blk (i := 7) HA8.out
  simp [ckO] at a0 a1 a2 a3 a4 a5 a6 a7
  have c0 := cell_blk (i := 0) HC8.out
  have c1 := cell_blk (i := 1) HC8.out
  have c2 := cell_blk (i := 2) HC8.out
  have c3 := cell_blk (i := 3) HC8.out
  have c4 := cell_blk (i := 4) HC8.out
  have c5 := cell_blk (i := 5) HC8.out
  have c6 := cell_blk (i := 6) HC8.out
  have c7 := cell_blk (i := 7) HC8.out
  simp [ckO] at c0 c1 c2 c3 c4 c5 c6 c7
  have cf0 := free_blk (i := 0) HC8.out
  have cf1 := free_blk (i := 1) HC8.out
  have cf2 := free_blk (i := 2) HC8.out
  have cf3 := free_blk (i := 3) HC8.out
  have cf4 := free_blk (i := 4) HC8.out
  have cf5 := free_blk (i := 5) HC8.out
  have cf6 := free_blk (i := 6) HC8.out
  have cf7 := free_blk (i := 7) HC8.out
  go_wp2_with fail
  obtain ⟨w9, hw9⟩ : ∃ w9, w9 = ((((((((w8).setCell ⟨w3.heap.size, 0, none⟩ (.int .i64 s0)).setCell ⟨w3.heap.size, 1, none⟩ (.int .i64 s1)).setCell ⟨w3.heap.size, 2, none⟩ (.int .i64 s2)).setCell ⟨w3.heap.size, 3, none⟩ (.int .i64 s3)).setCell ⟨w3.heap.size, 4, none⟩ (.int .u8 s4)).setCell ⟨w3.heap.size, 5, none⟩ (.bool s5)).setCell ⟨w3.heap.size, 6, none⟩ (.int .i64 s6)).setCell ⟨w3.heap.size, 7, none⟩ (.int .u8 s7) := ⟨_, rfl⟩
  rw [← hw9]
  have HX9 := Lib.hid (show w9.heap[w.heap.size]? = some (.cells #[.int .i64 a, .int .i64 b, .int .i64 m, .int .i64 k, .int .u8 h, .bool on, .int .i64 s, .int .u8 f] 24 (0, 0)) by rw [hw9]; rw [heap_set_far (by show _ ≠ _; dsimp only; omega), heap_set_far (by show _ ≠ _; dsimp only; omega), heap_set_far (by show _ ≠ _; dsimp only; omega), heap_set_far (by show _ ≠ _; dsimp only; omega), heap_set_far (by show _ ≠ _; dsimp only; omega), heap_set_far (by show _ ≠ _; dsimp only; omega), heap_set_far (by show _ ≠ _; dsimp only; omega), heap_set_far (by show _ ≠ _; dsimp only; omega)]; exact HX8.out)
  have HA9 := Lib.hid (show w9.heap[w1.heap.size]? = some (.cells #[.int .i64 s0, .int .i64 s1, .int .i64 s2, .int .i64 s3, .int .u8 s4, .bool s5, .int .i64 s6, .int .u8 s7] 24 (0, 0)) by rw [hw9]; rw [heap_set_far (by show _ ≠ _; dsimp only; omega), heap_set_far (by show _ ≠ _; dsimp only; omega), heap_set_far (by show _ ≠ _; dsimp only; omega), heap_set_far (by show _ ≠ _; dsimp only; omega), heap_set_far (by show _ ≠ _; dsimp only; omega), heap_set_far (by show _ ≠ _; dsimp only; omega), heap_set_far (by show _ ≠ _; dsimp only; omega), heap_set_far (by show _ ≠ _; dsimp only; omega)]; exact HA8.out)
  have HC9 := Lib.hid (show w9.heap[w3.heap.size]? = some (.cells #[.int .i64 s0, .int .i64 s1, .int .i64 s2, .int .i64 s3, .int .u8 s4, .bool s5, .int .i64 s6, .int .u8 s7] 24 (0, 0)) by rw [hw9]; rw [(heap_set (i := 7) (heap_set (i := 6) (heap_set (i := 5) (heap_set (i := 4) (heap_set (i := 3) (heap_set (i := 2) (heap_set (i := 1) (heap_set (i := 0) HC8.out _) _) _) _) _) _) _) _)]; rfl)
  have HB9 := Lib.hid (show Below w.heap.size w w9 by rw [hw9]; exact ((((((((HB8.out.setCell (HB3.out.size) _).setCell (HB3.out.size) _).setCell (HB3.out.size) _).setCell (HB3.out.size) _).setCell (HB3.out.size) _).setCell (HB3.out.size) _).setCell (HB3.out.size) _).setCell (HB3.out.size) _))
  clear hw9
  clear x0 x1 x2 x3 x4 x5 x6 x7 a0 a1 a2 a3 a4 a5 a6 a7 c0 c1 c2 c3 c4 c5 c6 c7 cf0 cf1 cf2 cf3 cf4 cf5 cf6 cf7
  refine (HP1.out _).mono ?_
  rintro e w10 ⟨rfl, b1⟩
  have HX10 := Lib.hid ((b1.block _ (heap_lt HX9.out)).trans HX9.out)
  have HA10 := Lib.hid ((b1.block _ (heap_lt HA9.out)).trans HA9.out)
  have HC10 := Lib.hid ((b1.block _ (heap_lt HC9.out)).trans HC9.out)
  have HB10 := Lib.hid (HB9.out.trans (b1.mono HB9.out.size))
  clear b1
  have x0 := cell_blk (i := 0) HX10.out
  have x1 := cell_blk (i := 1) HX10.out
  have x2 := cell_blk (i := 2) HX10.out
  have x3 := cell_blk (i := 3) HX10.out
  have x4 := cell_blk (i := 4) HX10.out
  have x5 := cell_blk (i := 5) HX10.out
  have x6 := cell_blk (i := 6) HX10.out
  have x7 := cell_blk (i := 7) HX10.out
  simp [ckO] at x0 x1 x2 x3 x4 x5 x6 x7
  have a0 := cell_blk (i := 0) HA10.out
  have a1 := cell_blk (i := 1) HA10.out
  have a2 := cell_blk (i := 2) HA10.out
  have a3 := cell_blk (i := 3) HA10.out
  have a4 := cell_blk (i := 4) HA10.out
  have a5 := cell_blk (i := 5) HA10.out
  have a6 := cell_blk (i := 6) HA10.out
  have a7 := cell_blk (i := 7) HA10.out
  simp [ckO] at a0 a1 a2 a3 a4 a5 a6 a7
  have af0 := free_blk (i := 0) HA10.out
  have af1 := free_blk (i := 1) HA10.out
  have af2 := free_blk (i := 2) HA10.out
  have af3 := free_blk (i := 3) HA10.out
  have af4 := free_blk (i := 4) HA10.out
  have af5 := free_blk (i := 5) HA10.out
  have af6 := free_blk (i := 6) HA10.out
  have af7 := free_blk (i := 7) HA10.out
  go_wp2_with fail
  obtain ⟨w11, hw11⟩ : ∃ w11, w11 = ((((((((w10).setCell ⟨w1.heap.size, 0, none⟩ (.int .i64 p0)).setCell ⟨w1.heap.size, 1, none⟩ (.int .i64 p1)).setCell ⟨w1.heap.size, 2, none⟩ (.int .i64 p2)).setCell ⟨w1.heap.size, 3, none⟩ (.int .i64 p3)).setCell ⟨w1.heap.size, 4, none⟩ (.int .u8 p4)).setCell ⟨w1.heap.size, 5, none⟩ (.bool p5)).setCell ⟨w1.heap.size, 6, none⟩ (.int .i64 p6)).setCell ⟨w1.heap.size, 7, none⟩ (.int .u8 p7) := ⟨_, rfl⟩
  rw [← hw11]
  have HX11 := Lib.hid (show w11.heap[w.heap.size]? = some (.cells #[.int .i64 a, .int .i64 b, .int .i64 m, .int .i64 k, .int .u8 h, .bool on, .int .i64 s, .int .u8 f] 24 (0, 0)) by rw [hw11]; rw [heap_set_far (by show _ ≠ _; dsimp only; omega), heap_set_far (by show _ ≠ _; dsimp only; omega), heap_set_far (by show _ ≠ _; dsimp only; omega), heap_set_far (by show _ ≠ _; dsimp only; omega), heap_set_far (by show _ ≠ _; dsimp only; omega), heap_set_far (by show _ ≠ _; dsimp only; omega), heap_set_far (by show _ ≠ _; dsimp only; omega), heap_set_far (by show _ ≠ _; dsimp only; omega)]; exact HX10.out)
  have HA11 := Lib.hid (show w11.heap[w1.heap.size]? = some (.cells #[.int .i64 p0, .int .i64 p1, .int .i64 p2, .int .i64 p3, .int .u8 p4, .bool p5, .int .i64 p6, .int .u8 p7] 24 (0, 0)) by rw [hw11]; rw [(heap_set (i := 7) (heap_set (i := 6) (heap_set (i := 5) (heap_set (i := 4) (heap_set (i := 3) (heap_set (i := 2) (heap_set (i := 1) (heap_set (i := 0) HA10.out _) _) _) _) _) _) _) _)]; rfl)
  have HC11 := Lib.hid (show w11.heap[w3.heap.size]? = some (.cells #[.int .i64 s0, .int .i64 s1, .int .i64 s2, .int .i64 s3, .int .u8 s4, .bool s5, .int .i64 s6, .int .u8 s7] 24 (0, 0)) by rw [hw11]; rw [heap_set_far (by show _ ≠ _; dsimp only; omega), heap_set_far (by show _ ≠ _; dsimp only; omega), heap_set_far (by show _ ≠ _; dsimp only; omega), heap_set_far (by show _ ≠ _; dsimp only; omega), heap_set_far (by show _ ≠ _; dsimp only; omega), heap_set_far (by show _ ≠ _; dsimp only; omega), heap_set_far (by show _ ≠ _; dsimp only; omega), heap_set_far (by show _ ≠ _; dsimp only; omega)]; exact HC10.out)
  have HB11 := Lib.hid (show Below w.heap.size w w11 by rw [hw11]; exact ((((((((HB10.out.setCell (HB1.out.size) _).setCell (HB1.out.size) _).setCell (HB1.out.size) _).setCell (HB1.out.size) _).setCell (HB1.out.size) _).setCell (HB1.out.size) _).setCell (HB1.out.size) _).setCell (HB1.out.size) _))
  clear hw11
  clear x0 x1 x2 x3 x4 x5 x6 x7 a0 a1 a2 a3 a4 a5 a6 a7 af0 af1 af2 af3 af4 af5 af6 af7
  refine (HP2.out _).mono ?_
  rintro e w12 ⟨rfl, b3⟩
  have HX12 := Lib.hid ((b3.block _ (heap_lt HX11.out)).trans HX11.out)
  have HA12 := Lib.hid ((b3.block _ (heap_lt HA11.out)).trans HA11.out)
  have HC12 := Lib.hid ((b3.block _ (heap_lt HC11.out)).trans HC11.out)
  have HB12 := Lib.hid (HB11.out.trans (b3.mono HB11.out.size))
  clear b3
  have x0 := cell_blk (i := 0) HX12.out
  have x1 := cell_blk (i := 1) HX12.out
  have x2 := cell_blk (i := 2) HX12.out
  have x3 := cell_blk (i := 3) HX12.out
  have x4 := cell_blk (i := 4) HX12.out
  have x5 := cell_blk (i := 5) HX12.out
  have x6 := cell_blk (i := 6) HX12.out
  have x7 := cell_blk (i := 7) HX12.out
  simp [ckO] at x0 x1 x2 x3 x4 x5 x6 x7
  have a0 := cell_blk (i := 0) HA12.out
  have a1 := cell_blk (i := 1) HA12.out
  have a2 := cell_blk (i := 2) HA12.out
  have a3 := cell_blk (i := 3) HA12.out
  have a4 := cell_blk (i := 4) HA12.out
  have a5 := cell_blk (i := 5) HA12.out
  have a6 := cell_blk (i := 6) HA12.out
  have a7 := cell_blk (i := 7) HA12.out
  simp [ckO] at a0 a1 a2 a3 a4 a5 a6 a7
  have c0 := cell_blk (i := 0) HC12.out
  have c1 := cell_blk (i := 1) HC12.out
  have c2 := cell_blk (i := 2) HC12.out
  have c3 := cell_blk (i := 3) HC12.out
  have c4 := cell_blk (i := 4) HC12.out
  have c5 := cell_blk (i := 5) HC12.out
  have c6 := cell_blk (i := 6) HC12.out
  have c7 := cell_blk (i := 7) HC12.out
  simp [ckO] at c0 c1 c2 c3 c4 c5 c6 c7
  have cf0 := free_blk (i := 0) HC12.out
  have cf1 := free_blk (i := 1) HC12.out
  have cf2 := free_blk (i := 2) HC12.out
  have cf3 := free_blk (i := 3) HC12.out
  have cf4 := free_blk (i := 4) HC12.out
  have cf5 := free_blk (i := 5) HC12.out
  have cf6 := free_blk (i := 6) HC12.out
  have cf7 := free_blk (i := 7) HC12.out
  go_wp2_with fail
  obtain ⟨w13, hw13⟩ : ∃ w13, w13 = ((((((((w12).setCell ⟨w3.heap.size, 0, none⟩ (.int .i64 p0)).setCell ⟨w3.heap.size, 1, none⟩ (.int .i64 p1)).setCell ⟨w3.heap.size, 2, none⟩ (.int .i64 p2)).setCell ⟨w3.heap.size, 3, none⟩ (.int .i64 p3)).setCell ⟨w3.heap.size, 4, none⟩ (.int .u8 p4)).setCell ⟨w3.heap.size, 5, none⟩ (.bool p5)).setCell ⟨w3.heap.size, 6, none⟩ (.int .i64 p6)).setCell ⟨w3.heap.size, 7, none⟩ (.int .u8 p7) := ⟨_, rfl⟩
  rw [← hw13]
  have HX13 := Lib.hid (show w13.heap[w.heap.size]? = some (.cells #[.int .i64 a, .int .i64 b, .int .i64 m, .int .i64 k, .int .u8 h, .bool on, .int .i64 s, .int .u8 f] 24 (0, 0)) by rw [hw13]; rw [heap_set_far (by show _ ≠ _; dsimp only; omega), heap_set_far (by show _ ≠ _; dsimp only; omega), heap_set_far (by show _ ≠ _; dsimp only; omega), heap_set_far (by show _ ≠ _; dsimp only; omega), heap_set_far (by show _ ≠ _; dsimp only; omega), heap_set_far (by show _ ≠ _; dsimp only; omega), heap_set_far (by show _ ≠ _; dsimp only; omega), heap_set_far (by show _ ≠ _; dsimp only; omega)]; exact HX12.out)
  have HA13 := Lib.hid (show w13.heap[w1.heap.size]? = some (.cells #[.int .i64 p0, .int .i64 p1, .int .i64 p2, .int .i64 p3, .int .u8 p4, .bool p5, .int .i64 p6, .int .u8 p7] 24 (0, 0)) by rw [hw13]; rw [heap_set_far (by show _ ≠ _; dsimp only; omega), heap_set_far (by show _ ≠ _; dsimp only; omega), heap_set_far (by show _ ≠ _; dsimp only; omega), heap_set_far (by show _ ≠ _; dsimp only; omega), heap_set_far (by show _ ≠ _; dsimp only; omega), heap_set_far (by show _ ≠ _; dsimp only; omega), heap_set_far (by show _ ≠ _; dsimp only; omega), heap_set_far (by show _ ≠ _; dsimp only; omega)]; exact HA12.out)
  have HC13 := Lib.hid (show w13.heap[w3.heap.size]? = some (.cells #[.int .i64 p0, .int .i64 p1, .int .i64 p2, .int .i64 p3, .int .u8 p4, .bool p5, .int .i64 p6, .int .u8 p7] 24 (0, 0)) by rw [hw13]; rw [(heap_set (i := 7) (heap_set (i := 6) (heap_set (i := 5) (heap_set (i := 4) (heap_set (i := 3) (heap_set (i := 2) (heap_set (i := 1) (heap_set (i := 0) HC12.out _) _) _) _) _) _) _) _)]; rfl)
  have HB13 := Lib.hid (show Below w.heap.size w w13 by rw [hw13]; exact ((((((((HB12.out.setCell (HB3.out.size) _).setCell (HB3.out.size) _).setCell (HB3.out.size) _).setCell (HB3.out.size) _).setCell (HB3.out.size) _).setCell (HB3.out.size) _).setCell (HB3.out.size) _).setCell (HB3.out.size) _))
  clear hw13
  clear x0 x1 x2 x3 x4 x5 x6 x7 a0 a1 a2 a3 a4 a5 a6 a7 c0 c1 c2 c3 c4 c5 c6 c7 cf0 cf1 cf2 cf3 cf4 cf5 cf6 cf7
  refine (HK1.out _).mono ?_
  rintro e w14 ⟨rfl, b1⟩
  have HX14 := Lib.hid ((b1.block _ (heap_lt HX13.out)).trans HX13.out)
  have HB14 := Lib.hid (HB13.out.trans (b1.mono HB13.out.size))
  clear b1
  have hd3 := heap_lt HX14.out
  have x0 := cell_blk (i := 0) HX14.out
  have x1 := cell_blk (i := 1) HX14.out
  have x2 := cell_blk (i := 2) HX14.out
  have x3 := cell_blk (i := 3) HX14.out
  have x4 := cell_blk (i := 4) HX14.out
  have x5 := cell_blk (i := 5) HX14.out
  have x6 := cell_blk (i := 6) HX14.out
  have x7 := cell_blk (i := 7) HX14.out
  simp [ckO] at x0 x1 x2 x3 x4 x5 x6 x7
  go_wp2_with fail
  obtain ⟨w15, hw15⟩ : ∃ w15, w15 = w14.alloc (.cells #[.int .i64 lx, .int .i64 ly] 22) := ⟨_, rfl⟩
  rw [← hw15]
  have HX15 := Lib.hid (show w15.heap[w.heap.size]? = some (.cells #[.int .i64 a, .int .i64 b, .int .i64 m, .int .i64 k, .int .u8 h, .bool on, .int .i64 s, .int .u8 f] 24 (0, 0)) by rw [hw15]; exact heap_older HX14.out)
  have HL15 := Lib.hid (show w15.heap[w14.heap.size]? = some (.cells #[.int .i64 lx, .int .i64 ly] 22 (0, 0)) by rw [hw15]; exact heap_alloc_new _ _)
  have HB15 := Lib.hid (show Below w.heap.size w w15 by rw [hw15]; exact HB14.out.alloc HB14.out.size _)
  clear hw15
  refine (HK2.out _).mono ?_
  rintro e w16 ⟨rfl, b1⟩
  have HX16 := Lib.hid ((b1.block _ (heap_lt HX15.out)).trans HX15.out)
  have HL16 := Lib.hid ((b1.block _ (heap_lt HL15.out)).trans HL15.out)
  have HB16 := Lib.hid (HB15.out.trans (b1.mono HB15.out.size))
  clear b1
  have hd4 := heap_lt HX16.out
  have hd5 := heap_lt HL16.out
  clear x0 x1 x2 x3 x4 x5 x6 x7
  have x0 := cell_blk (i := 0) HX16.out
  have x1 := cell_blk (i := 1) HX16.out
  have x2 := cell_blk (i := 2) HX16.out
  have x3 := cell_blk (i := 3) HX16.out
  have x4 := cell_blk (i := 4) HX16.out
  have x5 := cell_blk (i := 5) HX16.out
  have x6 := cell_blk (i := 6) HX16.out
  have x7 := cell_blk (i := 7) HX16.out
  simp [ckO] at x0 x1 x2 x3 x4 x5 x6 x7
  go_wp2_with fail
  obtain ⟨w17, hw17⟩ : ∃ w17, w17 = w16.alloc (.cells #[.int .i64 lx, .int .i64 ly] 22) := ⟨_, rfl⟩
  rw [← hw17]
  have HX17 := Lib.hid (show w17.heap[w.heap.size]? = some (.cells #[.int .i64 a, .int .i64 b, .int .i64 m, .int .i64 k, .int .u8 h, .bool on, .int .i64 s, .int .u8 f] 24 (0, 0)) by rw [hw17]; exact heap_older HX16.out)
  have HL17 := Lib.hid (show w17.heap[w14.heap.size]? = some (.cells #[.int .i64 lx, .int .i64 ly] 22 (0, 0)) by rw [hw17]; exact heap_older HL16.out)
  have HM17 := Lib.hid (show w17.heap[w16.heap.size]? = some (.cells #[.int .i64 lx, .int .i64 ly] 22 (0, 0)) by rw [hw17]; exact heap_alloc_new _ _)
  have HB17 := Lib.hid (show Below w.heap.size w w17 by rw [hw17]; exact HB16.out.alloc HB16.out.size _)
  clear hw17
  refine (HH1.out _).mono ?_
  rintro e w18 ⟨rfl, b1⟩
  have HX18 := Lib.hid ((b1.block _ (heap_lt HX17.out)).trans HX17.out)
  have HL18 := Lib.hid ((b1.block _ (heap_lt HL17.out)).trans HL17.out)
  have HM18 := Lib.hid ((b1.block _ (heap_lt HM17.out)).trans HM17.out)
  have HB18 := Lib.hid (HB17.out.trans (b1.mono HB17.out.size))
  clear b1
  clear x0 x1 x2 x3 x4 x5 x6 x7
  have x0 := cell_blk (i := 0) HX18.out
  have x1 := cell_blk (i := 1) HX18.out
  have x2 := cell_blk (i := 2) HX18.out
  have x3 := cell_blk (i := 3) HX18.out
  have x4 := cell_blk (i := 4) HX18.out
  have x5 := cell_blk (i := 5) HX18.out
  have x6 := cell_blk (i := 6) HX18.out
  have x7 := cell_blk (i := 7) HX18.out
  simp [ckO] at x0 x1 x2 x3 x4 x5 x6 x7
  go_wp2_with fail
  refine (HH2.out _).mono ?_
  rintro e w19 ⟨rfl, b1⟩
  have HX19 := Lib.hid ((b1.block _ (heap_lt HX18.out)).trans HX18.out)
  have HL19 := Lib.hid ((b1.block _ (heap_lt HL18.out)).trans HL18.out)
  have HM19 := Lib.hid ((b1.block _ (heap_lt HM18.out)).trans HM18.out)
  have HB19 := Lib.hid (HB18.out.trans (b1.mono HB18.out.size))
  clear b1
  clear x0 x1 x2 x3 x4 x5 x6 x7
  have x0 := cell_blk (i := 0) HL19.out
  have x1 := cell_blk (i := 1) HL19.out
  simp [ckO] at x0 x1
  have a0 := cell_blk (i := 0) HM19.out
  have a1 := cell_blk (i := 1) HM19.out
  simp [ckO] at a0 a1
  go_wp2_with fail
  refine (lives_any _ (HPT.out.below HB19.out)).mono ?_
  rintro e w20 ⟨rfl, b20⟩
  have HB20 := Lib.hid (HB19.out.trans (b20.mono HB19.out.size))
  clear b20
  go_wp2_with fail
  go_ret
  exact ⟨rfl, HB20.out⟩

end Go.Proofs.YtcemekianoehfaaDoor
