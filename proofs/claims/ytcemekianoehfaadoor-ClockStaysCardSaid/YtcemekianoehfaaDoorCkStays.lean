/- joustlaw28.ClockStays: walked. (Made by gen/mkck.py.) -/
import Derived.Test.YtcemekianoehfaaDoorCkLives
namespace Go.Proofs.YtcemekianoehfaaDoor
open Go.RowKit Go.Lib Go.Sort

set_option maxHeartbeats 4000000 in
set_option maxRecDepth 100000 in
theorem stays_noa (a b m k : Int) (h : Nat) (on : Bool) (s : Int) (f : Nat) (who : Nat) (n : Int) (hc : startC a b m k h on s f who n = (.zero, 2)) (w : World) (hT : PTab w) : Calls Tryd.prog 4 #[ckV a b m k h on s f, .int .u8 who, .int .i64 n] w fun e w' => e = .returned (.bool true) ∧ Below w.heap.size w w' := by
  have hst := fun W => start_any a b m k h on s f who n W
  rw [hc] at hst
  have HST := Lib.hid (show ∀ W, Calls Tryd.prog 11 #[ckV a b m k h on s f, .int .u8 who, .int .i64 n] W fun e w' => e = .returned (.tuple #[.agg #[.int .i64 0, .int .i64 0, .int .i64 0, .int .i64 0, .int .u8 0, .bool false, .int .i64 0, .int .u8 0], .int .i64 2]) ∧ Below W.heap.size W w' from hst)
  clear hst hc
  obtain ⟨w0, hw0⟩ : ∃ w0, w0 = w.alloc (.cells #[.int .i64 a, .int .i64 b, .int .i64 m, .int .i64 k, .int .u8 h, .bool on, .int .i64 s, .int .u8 f] 24) := ⟨_, rfl⟩
  have HX0 : Hid (w0.heap[w.heap.size]? = some (.cells #[.int .i64 a, .int .i64 b, .int .i64 m, .int .i64 k, .int .u8 h, .bool on, .int .i64 s, .int .u8 f] 24 (0, 0))) := Lib.hid (by rw [hw0]; exact heap_alloc_new _ _)
  have HB0 : Hid (Below w.heap.size w w0) := Lib.hid (by rw [hw0]; exact box_below _ _)
  have HW0 := Lib.hid hw0
  clear hw0
  have HPT := Lib.hid hT
  clear hT
  have q0 := fun W => (show Sem.run Tryd.prog (Op.equalIn 10000 24 (.agg #[.int .i64 0, .int .i64 0, .int .i64 0, .int .i64 0, .int .u8 0, .bool false, .int .i64 0, .int .u8 0]) (.agg #[.int .i64 0, .int .i64 0, .int .i64 0, .int .i64 0, .int .u8 0, .bool false, .int .i64 0, .int .u8 0])) W = .ok true W from ck_eq (0) (0) (0) (0) (0) (false) (0) (0) W)
  go_enter Tryd.func4, Tryd.ntmps4
  go_wp2_with fail
  refine (HST.out _).mono ?_
  rintro e w1 ⟨rfl, b1⟩
  rw [← HW0.out] at b1
  have HB1 := Lib.hid (HB0.out.trans (b1.mono HB0.out.size))
  clear b1
  go_wp2_with fail
  obtain ⟨w2, hw2⟩ : ∃ w2, w2 = w1.alloc (.cells #[.int .i64 0, .int .i64 0, .int .i64 0, .int .i64 0, .int .u8 0, .bool false, .int .i64 0, .int .u8 0] 24) := ⟨_, rfl⟩
  rw [← hw2]
  have HX2 := Lib.hid (show w2.heap[w1.heap.size]? = some (.cells #[.int .i64 0, .int .i64 0, .int .i64 0, .int .i64 0, .int .u8 0, .bool false, .int .i64 0, .int .u8 0] 24 (0, 0)) by rw [hw2]; exact heap_alloc_new _ _)
  have HB2 := Lib.hid (show Below w.heap.size w w2 by rw [hw2]; exact HB1.out.alloc HB1.out.size _)
  clear hw2
  refine (lives_any _ (HPT.out.below HB2.out)).mono ?_
  rintro e w3 ⟨rfl, b3⟩
  have HB3 := Lib.hid (HB2.out.trans (b3.mono HB2.out.size))
  clear b3
  go_wp2_with fail
  go_ret
  exact ⟨rfl, HB3.out⟩

set_option maxHeartbeats 4000000 in
set_option maxRecDepth 100000 in
theorem stays_nob (a b m k : Int) (h : Nat) (on : Bool) (s : Int) (f : Nat) (who : Nat) (n : Int) (hc : startC a b m k h on s f who n = (.zero, 11)) (w : World) (hT : PTab w) : Calls Tryd.prog 4 #[ckV a b m k h on s f, .int .u8 who, .int .i64 n] w fun e w' => e = .returned (.bool true) ∧ Below w.heap.size w w' := by
  have hst := fun W => start_any a b m k h on s f who n W
  rw [hc] at hst
  have HST := Lib.hid (show ∀ W, Calls Tryd.prog 11 #[ckV a b m k h on s f, .int .u8 who, .int .i64 n] W fun e w' => e = .returned (.tuple #[.agg #[.int .i64 0, .int .i64 0, .int .i64 0, .int .i64 0, .int .u8 0, .bool false, .int .i64 0, .int .u8 0], .int .i64 11]) ∧ Below W.heap.size W w' from hst)
  clear hst hc
  obtain ⟨w0, hw0⟩ : ∃ w0, w0 = w.alloc (.cells #[.int .i64 a, .int .i64 b, .int .i64 m, .int .i64 k, .int .u8 h, .bool on, .int .i64 s, .int .u8 f] 24) := ⟨_, rfl⟩
  have HX0 : Hid (w0.heap[w.heap.size]? = some (.cells #[.int .i64 a, .int .i64 b, .int .i64 m, .int .i64 k, .int .u8 h, .bool on, .int .i64 s, .int .u8 f] 24 (0, 0))) := Lib.hid (by rw [hw0]; exact heap_alloc_new _ _)
  have HB0 : Hid (Below w.heap.size w w0) := Lib.hid (by rw [hw0]; exact box_below _ _)
  have HW0 := Lib.hid hw0
  clear hw0
  have HPT := Lib.hid hT
  clear hT
  have q0 := fun W => (show Sem.run Tryd.prog (Op.equalIn 10000 24 (.agg #[.int .i64 0, .int .i64 0, .int .i64 0, .int .i64 0, .int .u8 0, .bool false, .int .i64 0, .int .u8 0]) (.agg #[.int .i64 0, .int .i64 0, .int .i64 0, .int .i64 0, .int .u8 0, .bool false, .int .i64 0, .int .u8 0])) W = .ok true W from ck_eq (0) (0) (0) (0) (0) (false) (0) (0) W)
  go_enter Tryd.func4, Tryd.ntmps4
  go_wp2_with fail
  refine (HST.out _).mono ?_
  rintro e w1 ⟨rfl, b1⟩
  rw [← HW0.out] at b1
  have HB1 := Lib.hid (HB0.out.trans (b1.mono HB0.out.size))
  clear b1
  go_wp2_with fail
  obtain ⟨w2, hw2⟩ : ∃ w2, w2 = w1.alloc (.cells #[.int .i64 0, .int .i64 0, .int .i64 0, .int .i64 0, .int .u8 0, .bool false, .int .i64 0, .int .u8 0] 24) := ⟨_, rfl⟩
  rw [← hw2]
  have HX2 := Lib.hid (show w2.heap[w1.heap.size]? = some (.cells #[.int .i64 0, .int .i64 0, .int .i64 0, .int .i64 0, .int .u8 0, .bool false, .int .i64 0, .int .u8 0] 24 (0, 0)) by rw [hw2]; exact heap_alloc_new _ _)
  have HB2 := Lib.hid (show Below w.heap.size w w2 by rw [hw2]; exact HB1.out.alloc HB1.out.size _)
  clear hw2
  refine (lives_any _ (HPT.out.below HB2.out)).mono ?_
  rintro e w3 ⟨rfl, b3⟩
  have HB3 := Lib.hid (HB2.out.trans (b3.mono HB2.out.size))
  clear b3
  go_wp2_with fail
  go_ret
  exact ⟨rfl, HB3.out⟩


theorem min_walk (x : Int) (hx : 0 ≤ x) (hx' : x ≤ 2147483648) : min (IntKind.i64.wrap x) 1073741824 = min x 1073741824 := by rw [IntWalk.i64_in x (by omega)]
theorem stay_ask {a b m k s n : Int} {h who : Nat} (hn : askB a b m k h false s 2 n = true) (hw : who ≤ 1) : askB a b m k who true n 2 n = true := by
  simp only [askB, Bool.and_eq_true, mayB_iff, timeB_iff, decide_eq_true_eq] at hn ⊢
  obtain ⟨⟨⟨h1, h2, h3, h4, h5, h6, h7, h8, h9, h10⟩, h11⟩, h12⟩ := hn
  exact ⟨⟨⟨h1, h2, h3, h4, h5, h6, hw, h11, h9, by simp⟩, h11⟩, Int.le_refl _⟩
theorem stay_fall {a b m k s n : Int} {h who : Nat} (hn : askB a b m k h false s 2 n = true) : fallB a b k who true n n = false := by
  obtain ⟨ha, hb, -, -, -, hk, -, -, -, -, -, -⟩ := ask_bd hn
  have := long_bd (h := who) ha hb hk
  simp only [fallB, Bool.true_and]
  exact decide_eq_false (by omega)
theorem stay_fill {a m n : Int} (ha : 1 ≤ a) (ha' : a ≤ 1073741824) (hm : 0 ≤ m) (hm' : m ≤ 1073741824) : fillI (a - (n - n)) m = min (a + m) 1073741824 := by unfold fillI; omega
theorem stay_stop0 {a b m k s n : Int} {h : Nat} (hn : askB a b m k h false s 2 n = true) : stopC a b m k 0 true n 2 n = (⟨min (a + m) 1073741824, b, m, k, 0, false, n, 2⟩, true, 0) := by
  obtain ⟨ha, hb, h0, h1, hm, hk, -, -, -, -, -, -⟩ := ask_bd hn
  unfold stopC
  rw [if_pos (stay_ask hn (by omega)), if_pos rfl, if_neg (by rw [stay_fall hn]; simp), stay_fill (by omega) (by omega) (by omega) (by omega)]
  rfl
theorem stay_stop1 {a b m k s n : Int} {h : Nat} (hn : askB a b m k h false s 2 n = true) : stopC a b m k 1 true n 2 n = (⟨a, min (b + m) 1073741824, m, k, 1, false, n, 2⟩, true, 0) := by
  obtain ⟨ha, hb, h0, h1, hm, hk, -, -, -, -, -, -⟩ := ask_bd hn
  unfold stopC
  rw [if_pos (stay_ask hn (by omega)), if_pos rfl, if_neg (by rw [stay_fall hn]; simp), stay_fill (a := b) (by omega) (by omega) (by omega) (by omega)]
  rfl
set_option maxHeartbeats 16000000 in
set_option maxRecDepth 100000 in
theorem stays_ok0 (a b m k : Int) (h : Nat) (s n : Int) (hn : askB a b m k h false s 2 n = true) (w : World) (hT : PTab w) : Calls Tryd.prog 4 #[ckV a b m k h false s 2, .int .u8 0, .int .i64 n] w fun e w' => e = .returned (.bool true) ∧ Below w.heap.size w w' := by
  have hst := fun W => start_any a b m k h false s 2 0 n W
  rw [show startC a b m k h false s 2 0 n = (⟨a, b, m, k, 0, true, n, 2⟩, 0) by unfold startC; rw [if_pos ⟨hn, by omega⟩, if_pos ⟨rfl, rfl⟩]] at hst
  have hsp := fun W => stop_any a b m k 0 true n 2 n W
  rw [stay_stop0 hn] at hsp
  have HST := Lib.hid (show ∀ W, Calls Tryd.prog 11 #[ckV a b m k h false s 2, .int .u8 0, .int .i64 n] W fun e w' => e = .returned (.tuple #[.agg #[.int .i64 a, .int .i64 b, .int .i64 m, .int .i64 k, .int .u8 0, .bool true, .int .i64 n, .int .u8 2], .int .i64 0]) ∧ Below W.heap.size W w' from hst)
  have HSP := Lib.hid (show ∀ W, Calls Tryd.prog 13 #[.agg #[.int .i64 a, .int .i64 b, .int .i64 m, .int .i64 k, .int .u8 0, .bool true, .int .i64 n, .int .u8 2], .int .i64 n] W fun e w' => e = .returned (.tuple #[.agg #[.int .i64 (min (a + m) 1073741824), .int .i64 b, .int .i64 m, .int .i64 k, .int .u8 0, .bool false, .int .i64 n, .int .u8 2], .bool true, .int .i64 0]) ∧ Below W.heap.size W w' from hsp)
  obtain ⟨ha, hb, -, -, hm, hk, hh, -, -, hs, hsn, hnT⟩ := ask_bd hn
  clear hst hsp hn
  have q1 := fun W => two_eq a b W
  have MN := Lib.hid (min_walk (a + m) (by omega) (by omega))
  have q2 := fun W => (show Sem.run Tryd.prog (Op.equalIn 10000 24 (.agg #[.int .i64 (min (a + m) 1073741824), .int .i64 b, .int .i64 m, .int .i64 k, .int .u8 0, .bool false, .int .i64 n, .int .u8 2]) (.agg #[.int .i64 (min (a + m) 1073741824), .int .i64 b, .int .i64 m, .int .i64 k, .int .u8 0, .bool false, .int .i64 n, .int .u8 2])) W = .ok true W from ck_eq ((min (a + m) 1073741824)) (b) (m) (k) (0) (false) (n) (2) W)
  obtain ⟨w0, hw0⟩ : ∃ w0, w0 = w.alloc (.cells #[.int .i64 a, .int .i64 b, .int .i64 m, .int .i64 k, .int .u8 h, .bool false, .int .i64 s, .int .u8 2] 24) := ⟨_, rfl⟩
  have HX0 : Hid (w0.heap[w.heap.size]? = some (.cells #[.int .i64 a, .int .i64 b, .int .i64 m, .int .i64 k, .int .u8 h, .bool false, .int .i64 s, .int .u8 2] 24 (0, 0))) := Lib.hid (by rw [hw0]; exact heap_alloc_new _ _)
  have HB0 : Hid (Below w.heap.size w w0) := Lib.hid (by rw [hw0]; exact box_below _ _)
  have HW0 := Lib.hid hw0
  clear hw0
  have HPT := Lib.hid hT
  clear hT
  go_enter Tryd.func4, Tryd.ntmps4
  go_wp2_with fail
  refine (HST.out _).mono ?_
  rintro e w1 ⟨rfl, b1⟩
  rw [← HW0.out] at b1
  have HX1 := Lib.hid ((b1.block _ (heap_lt HX0.out)).trans HX0.out)
  have HB1 := Lib.hid (HB0.out.trans (b1.mono HB0.out.size))
  clear b1
  have hl1 := heap_lt HX1.out
  go_wp2_with fail
  obtain ⟨w2, hw2⟩ : ∃ w2, w2 = w1.alloc (.cells #[.int .i64 a, .int .i64 b, .int .i64 m, .int .i64 k, .int .u8 0, .bool true, .int .i64 n, .int .u8 2] 24) := ⟨_, rfl⟩
  rw [← hw2]
  have HX2 := Lib.hid (show w2.heap[w.heap.size]? = some (.cells #[.int .i64 a, .int .i64 b, .int .i64 m, .int .i64 k, .int .u8 h, .bool false, .int .i64 s, .int .u8 2] 24 (0, 0)) by rw [hw2]; exact heap_older HX1.out)
  have HY2 := Lib.hid (show w2.heap[w1.heap.size]? = some (.cells #[.int .i64 a, .int .i64 b, .int .i64 m, .int .i64 k, .int .u8 0, .bool true, .int .i64 n, .int .u8 2] 24 (0, 0)) by rw [hw2]; exact heap_alloc_new _ _)
  have HB2 := Lib.hid (show Below w.heap.size w w2 by rw [hw2]; exact HB1.out.alloc HB1.out.size _)
  clear hw2
  refine (HSP.out _).mono ?_
  rintro e w3 ⟨rfl, b3⟩
  have HX3 := Lib.hid ((b3.block _ (heap_lt HX2.out)).trans HX2.out)
  have HY3 := Lib.hid ((b3.block _ (heap_lt HY2.out)).trans HY2.out)
  have HB3 := Lib.hid (HB2.out.trans (b3.mono HB2.out.size))
  clear b3
  have hl3 := heap_lt HY3.out
  have hl4 := heap_lt HX3.out
  have x0 := cell_blk (i := 0) HX3.out
  have x1 := cell_blk (i := 1) HX3.out
  have x2 := cell_blk (i := 2) HX3.out
  have x3 := cell_blk (i := 3) HX3.out
  have x4 := cell_blk (i := 4) HX3.out
  have x5 := cell_blk (i := 5) HX3.out
  have x6 := cell_blk (i := 6) HX3.out
  have x7 := cell_blk (i := 7) HX3.out
  simp [ckO] at x0 x1 x2 x3 x4 x5 x6 x7
  go_wp2_with fail
  obtain ⟨w5, hw5⟩ : ∃ w5, w5 = (w3.alloc (.cells #[.int .i64 (min (a + m) 1073741824), .int .i64 b, .int .i64 m, .int .i64 k, .int .u8 0, .bool false, .int .i64 n, .int .u8 2] 24)).alloc (.cells #[.int .i64 a, .int .i64 b, .int .i64 m, .int .i64 k, .int .u8 0, .bool false, .int .i64 n, .int .u8 2] 24) := ⟨_, rfl⟩
  rw [← hw5]
  have HX5 := Lib.hid (show w5.heap[w.heap.size]? = some (.cells #[.int .i64 a, .int .i64 b, .int .i64 m, .int .i64 k, .int .u8 h, .bool false, .int .i64 s, .int .u8 2] 24 (0, 0)) by rw [hw5]; exact heap_older (heap_older HX3.out))
  have HY5 := Lib.hid (show w5.heap[w1.heap.size]? = some (.cells #[.int .i64 a, .int .i64 b, .int .i64 m, .int .i64 k, .int .u8 0, .bool true, .int .i64 n, .int .u8 2] 24 (0, 0)) by rw [hw5]; exact heap_older (heap_older HY3.out))
  have HZ5 := Lib.hid (show w5.heap[w3.heap.size]? = some (.cells #[.int .i64 (min (a + m) 1073741824), .int .i64 b, .int .i64 m, .int .i64 k, .int .u8 0, .bool false, .int .i64 n, .int .u8 2] 24 (0, 0)) by rw [hw5]; exact heap_older (heap_alloc_new _ _))
  have HW5 := Lib.hid (show w5.heap[w3.heap.size + 1]? = some (.cells #[.int .i64 a, .int .i64 b, .int .i64 m, .int .i64 k, .int .u8 0, .bool false, .int .i64 n, .int .u8 2] 24 (0, 0)) by rw [hw5]; exact heap_newer _ _ _ (by simp))
  have HB5 := Lib.hid (show Below w.heap.size w w5 by rw [hw5]; exact (HB3.out.alloc HB3.out.size _).alloc (by have := HB3.out.size; simp; omega) _)
  clear hw5
  clear x0 x1 x2 x3 x4 x5 x6 x7
  have x0 := cell_blk (i := 0) HX5.out
  have x1 := cell_blk (i := 1) HX5.out
  have x2 := cell_blk (i := 2) HX5.out
  have x3 := cell_blk (i := 3) HX5.out
  have x4 := cell_blk (i := 4) HX5.out
  have x5 := cell_blk (i := 5) HX5.out
  have x6 := cell_blk (i := 6) HX5.out
  have x7 := cell_blk (i := 7) HX5.out
  simp [ckO] at x0 x1 x2 x3 x4 x5 x6 x7
  have z0 := cell_blk (i := 0) HW5.out
  have z1 := cell_blk (i := 1) HW5.out
  have z2 := cell_blk (i := 2) HW5.out
  have z3 := cell_blk (i := 3) HW5.out
  have z4 := cell_blk (i := 4) HW5.out
  have z5 := cell_blk (i := 5) HW5.out
  have z6 := cell_blk (i := 6) HW5.out
  have z7 := cell_blk (i := 7) HW5.out
  simp [ckO] at z0 z1 z2 z3 z4 z5 z6 z7
  have zf0 := free_blk (i := 0) HW5.out
  have zf1 := free_blk (i := 1) HW5.out
  have zf2 := free_blk (i := 2) HW5.out
  have zf3 := free_blk (i := 3) HW5.out
  have zf4 := free_blk (i := 4) HW5.out
  have zf5 := free_blk (i := 5) HW5.out
  have zf6 := free_blk (i := 6) HW5.out
  have zf7 := free_blk (i := 7) HW5.out
  refine wp_region_held_drew (S := fun w' => w'.cell? ⟨w.heap.size, 0, none⟩ = some (.int .i64 a) ∧ w'.cell? ⟨w.heap.size, 1, none⟩ = some (.int .i64 b) ∧ w'.cell? ⟨w.heap.size, 2, none⟩ = some (.int .i64 m) ∧ w'.cell? ⟨w.heap.size, 3, none⟩ = some (.int .i64 k) ∧ w'.cell? ⟨w.heap.size, 4, none⟩ = some (.int .u8 h) ∧ w'.cell? ⟨w.heap.size, 5, none⟩ = some (.bool false) ∧ w'.cell? ⟨w.heap.size, 6, none⟩ = some (.int .i64 s) ∧ w'.cell? ⟨w.heap.size, 7, none⟩ = some (.int .u8 2)) (by kernel_rfl) ⟨by simpa using x0, by simpa using x1, by simpa using x2, by simpa using x3, by simpa using x4, by simpa using x5, by simpa using x6, by simpa using x7⟩ (fun hHeld => ?_)
  clear x0 x1 x2 x3 x4 x5 x6 x7
  refine take_at (i := 0) (v := ?_) rfl (by kernel_rfl) (by kernel_rfl) (by kernel_rfl) (fun _ _ _ h => h) (Or.inl ⟨by rfl, ?_⟩) hHeld ?_
  rotate_left
  · intro w hSw
    (try dsimp only at hSw)
    go_simp
    try with_reducible rfl
  try simp only [Act.put, List.setIfInBounds_toArray, List.set_cons_zero, List.set_cons_succ]
  try dsimp only
  refine take_at (i := 1) (v := ?_) rfl (by kernel_rfl) (by kernel_rfl) (by kernel_rfl) (fun _ _ _ h => h) (Or.inl ⟨by rfl, ?_⟩) hHeld ?_
  rotate_left
  · intro w hSw
    (try dsimp only at hSw)
    go_simp
    try with_reducible rfl
  try simp only [Act.put, List.setIfInBounds_toArray, List.set_cons_zero, List.set_cons_succ]
  try dsimp only
  refine take_at (i := 2) (v := ?_) rfl (by kernel_rfl) (by kernel_rfl) (by kernel_rfl) (fun _ _ _ h => h) (Or.inl ⟨by rfl, ?_⟩) hHeld ?_
  rotate_left
  · intro w hSw
    (try dsimp only at hSw)
    go_simp
    try with_reducible rfl
  try simp only [Act.put, List.setIfInBounds_toArray, List.set_cons_zero, List.set_cons_succ]
  try dsimp only
  refine take_at (i := 3) (v := ?_) rfl (by kernel_rfl) (by kernel_rfl) (by kernel_rfl) (fun _ _ _ h => h) (Or.inl ⟨by rfl, ?_⟩) hHeld ?_
  rotate_left
  · intro w hSw
    (try dsimp only at hSw)
    go_simp
    try with_reducible rfl
  try simp only [Act.put, List.setIfInBounds_toArray, List.set_cons_zero, List.set_cons_succ]
  try dsimp only
  refine take_at (i := 4) (v := ?_) rfl (by kernel_rfl) (by kernel_rfl) (by kernel_rfl) (fun _ _ _ h => h) (Or.inl ⟨by rfl, ?_⟩) hHeld ?_
  rotate_left
  · intro w hSw
    (try dsimp only at hSw)
    go_simp
    try with_reducible rfl
  try simp only [Act.put, List.setIfInBounds_toArray, List.set_cons_zero, List.set_cons_succ]
  try dsimp only
  refine take_at (i := 5) (v := ?_) rfl (by kernel_rfl) (by kernel_rfl) (by kernel_rfl) (fun _ _ _ h => h) (Or.inl ⟨by rfl, ?_⟩) hHeld ?_
  rotate_left
  · intro w hSw
    (try dsimp only at hSw)
    go_simp
    try with_reducible rfl
  try simp only [Act.put, List.setIfInBounds_toArray, List.set_cons_zero, List.set_cons_succ]
  try dsimp only
  refine take_at (i := 6) (v := ?_) rfl (by kernel_rfl) (by kernel_rfl) (by kernel_rfl) (fun _ _ _ h => h) (Or.inl ⟨by rfl, ?_⟩) hHeld ?_
  rotate_left
  · intro w hSw
    (try dsimp only at hSw)
    go_simp
    try with_reducible rfl
  try simp only [Act.put, List.setIfInBounds_toArray, List.set_cons_zero, List.set_cons_succ]
  try dsimp only
  refine take_at (i := 7) (v := ?_) rfl (by kernel_rfl) (by kernel_rfl) (by kernel_rfl) (fun _ _ _ h => h) (Or.inl ⟨by rfl, ?_⟩) hHeld ?_
  rotate_left
  · intro w hSw
    (try dsimp only at hSw)
    go_simp
    try with_reducible rfl
  try simp only [Act.put, List.setIfInBounds_toArray, List.set_cons_zero, List.set_cons_succ]
  try dsimp only
  refine take_at (i := 9) (v := ?_) rfl (by kernel_rfl) (by kernel_rfl) (by kernel_rfl) (fun _ _ _ h => h) (Or.inl ⟨by rfl, ?_⟩) hHeld ?_
  rotate_left
  · intro w hSw
    (try dsimp only at hSw)
    go_simp
    try with_reducible rfl
  try simp only [Act.put, List.setIfInBounds_toArray, List.set_cons_zero, List.set_cons_succ]
  try dsimp only
  refine wpAnyH_ready (rs := [8]) (by kernel_rfl) (by simp) ?_
  refine cons_at rfl (fun K hK => ?_) AllReadyH.nil
  go_simp
  refine hK.out _ _ hHeld (fun hHeld => ?_)
  clear hK K
  try simp only [Act.put, List.setIfInBounds_toArray, List.set_cons_zero, List.set_cons_succ]
  try dsimp only
  rw [MN.out]
  refine take_at (i := 10) (v := ?_) rfl (by kernel_rfl) (by kernel_rfl) (by kernel_rfl) (fun _ _ _ h => h) (Or.inl ⟨by rfl, ?_⟩) hHeld ?_
  rotate_left
  · intro w hSw
    (try dsimp only at hSw)
    go_simp
    try with_reducible rfl
  try simp only [Act.put, List.setIfInBounds_toArray, List.set_cons_zero, List.set_cons_succ]
  try dsimp only
  refine wpAnyH_ready (rs := [11]) (by kernel_rfl) (by simp) ?_
  refine cons_at rfl (fun K hK => ?_) AllReadyH.nil
  go_simp
  refine hK.out _ _ ⟨(by exact ck_farr (by show _ ≠ _; dsimp only; omega) hHeld.1), (by exact ck_farr (by show _ ≠ _; dsimp only; omega) hHeld.2.1), (by exact ck_farr (by show _ ≠ _; dsimp only; omega) hHeld.2.2.1), (by exact ck_farr (by show _ ≠ _; dsimp only; omega) hHeld.2.2.2.1), (by exact ck_farr (by show _ ≠ _; dsimp only; omega) hHeld.2.2.2.2.1), (by exact ck_farr (by show _ ≠ _; dsimp only; omega) hHeld.2.2.2.2.2.1), (by exact ck_farr (by show _ ≠ _; dsimp only; omega) hHeld.2.2.2.2.2.2.1), (by exact ck_farr (by show _ ≠ _; dsimp only; omega) hHeld.2.2.2.2.2.2.2)⟩ (fun hHeld => ?_)
  clear hK K
  try simp only [Act.put, List.setIfInBounds_toArray, List.set_cons_zero, List.set_cons_succ]
  try dsimp only
  refine wpAnyH_done (by kernel_rfl) ?_ _
  clear hHeld z0 zf0 z1 zf1 z2 zf2 z3 zf3 z4 zf4 z5 zf5 z6 zf6 z7 zf7
  obtain ⟨w6, hw6⟩ : ∃ w6, w6 = (w5.setCell ⟨w3.heap.size + 1, 0, none⟩ (.int .i64 (min (a + m) 1073741824))).drew := ⟨_, rfl⟩
  rw [← hw6]
  have HX6 := Lib.hid (show w6.heap[w.heap.size]? = some (.cells #[.int .i64 a, .int .i64 b, .int .i64 m, .int .i64 k, .int .u8 h, .bool false, .int .i64 s, .int .u8 2] 24 (0, 0)) by rw [hw6]; show (w5.setCell ⟨w3.heap.size + 1, 0, none⟩ (.int .i64 (min (a + m) 1073741824))).heap[_]? = _; rw [heap_set_far (by show _ ≠ _; dsimp only; omega)]; exact HX5.out)
  have HY6 := Lib.hid (show w6.heap[w1.heap.size]? = some (.cells #[.int .i64 a, .int .i64 b, .int .i64 m, .int .i64 k, .int .u8 0, .bool true, .int .i64 n, .int .u8 2] 24 (0, 0)) by rw [hw6]; show (w5.setCell ⟨w3.heap.size + 1, 0, none⟩ (.int .i64 (min (a + m) 1073741824))).heap[_]? = _; rw [heap_set_far (by show _ ≠ _; dsimp only; omega)]; exact HY5.out)
  have HZ6 := Lib.hid (show w6.heap[w3.heap.size]? = some (.cells #[.int .i64 (min (a + m) 1073741824), .int .i64 b, .int .i64 m, .int .i64 k, .int .u8 0, .bool false, .int .i64 n, .int .u8 2] 24 (0, 0)) by rw [hw6]; show (w5.setCell ⟨w3.heap.size + 1, 0, none⟩ (.int .i64 (min (a + m) 1073741824))).heap[_]? = _; rw [heap_set_far (by show _ ≠ _; dsimp only; omega)]; exact HZ5.out)
  have HW6 := Lib.hid (show w6.heap[w3.heap.size + 1]? = some (.cells #[.int .i64 (min (a + m) 1073741824), .int .i64 b, .int .i64 m, .int .i64 k, .int .u8 0, .bool false, .int .i64 n, .int .u8 2] 24 (0, 0)) by rw [hw6]; show (w5.setCell ⟨w3.heap.size + 1, 0, none⟩ (.int .i64 (min (a + m) 1073741824))).heap[_]? = _; rw [heap_set (i := 0) HW5.out]; rfl)
  have HB6 := Lib.hid (show Below w.heap.size w w6 by rw [hw6]; exact (HB5.out.setCell (by have := HB3.out.size; show _ ≤ _; dsimp only; omega) _).drew)
  clear hw6
  have x0 := cell_blk (i := 0) HX6.out
  have x1 := cell_blk (i := 1) HX6.out
  have x2 := cell_blk (i := 2) HX6.out
  have x3 := cell_blk (i := 3) HX6.out
  have x4 := cell_blk (i := 4) HX6.out
  have x5 := cell_blk (i := 5) HX6.out
  have x6 := cell_blk (i := 6) HX6.out
  have x7 := cell_blk (i := 7) HX6.out
  simp [ckO] at x0 x1 x2 x3 x4 x5 x6 x7
  have y0 := cell_blk (i := 0) HY6.out
  have y1 := cell_blk (i := 1) HY6.out
  have y2 := cell_blk (i := 2) HY6.out
  have y3 := cell_blk (i := 3) HY6.out
  have y4 := cell_blk (i := 4) HY6.out
  have y5 := cell_blk (i := 5) HY6.out
  have y6 := cell_blk (i := 6) HY6.out
  have y7 := cell_blk (i := 7) HY6.out
  simp [ckO] at y0 y1 y2 y3 y4 y5 y6 y7
  have z0 := cell_blk (i := 0) HZ6.out
  have z1 := cell_blk (i := 1) HZ6.out
  have z2 := cell_blk (i := 2) HZ6.out
  have z3 := cell_blk (i := 3) HZ6.out
  have z4 := cell_blk (i := 4) HZ6.out
  have z5 := cell_blk (i := 5) HZ6.out
  have z6 := cell_blk (i := 6) HZ6.out
  have z7 := cell_blk (i := 7) HZ6.out
  simp [ckO] at z0 z1 z2 z3 z4 z5 z6 z7
  have v0 := cell_blk (i := 0) HW6.out
  have v1 := cell_blk (i := 1) HW6.out
  have v2 := cell_blk (i := 2) HW6.out
  have v3 := cell_blk (i := 3) HW6.out
  have v4 := cell_blk (i := 4) HW6.out
  have v5 := cell_blk (i := 5) HW6.out
  have v6 := cell_blk (i := 6) HW6.out
  have v7 := cell_blk (i := 7) HW6.out
  simp [ckO] at v0 v1 v2 v3 v4 v5 v6 v7
  go_wp2_with fail
  refine (lives_any _ (HPT.out.below HB6.out)).mono ?_
  rintro e w7 ⟨rfl, b7⟩
  have HB7 := Lib.hid (HB6.out.trans (b7.mono HB6.out.size))
  clear b7
  go_wp2_with fail
  go_ret
  exact ⟨rfl, HB7.out⟩

set_option maxHeartbeats 16000000 in
set_option maxRecDepth 100000 in
theorem stays_ok1 (a b m k : Int) (h : Nat) (s n : Int) (hn : askB a b m k h false s 2 n = true) (w : World) (hT : PTab w) : Calls Tryd.prog 4 #[ckV a b m k h false s 2, .int .u8 1, .int .i64 n] w fun e w' => e = .returned (.bool true) ∧ Below w.heap.size w w' := by
  have hst := fun W => start_any a b m k h false s 2 1 n W
  rw [show startC a b m k h false s 2 1 n = (⟨a, b, m, k, 1, true, n, 2⟩, 0) by unfold startC; rw [if_pos ⟨hn, by omega⟩, if_pos ⟨rfl, rfl⟩]] at hst
  have hsp := fun W => stop_any a b m k 1 true n 2 n W
  rw [stay_stop1 hn] at hsp
  have HST := Lib.hid (show ∀ W, Calls Tryd.prog 11 #[ckV a b m k h false s 2, .int .u8 1, .int .i64 n] W fun e w' => e = .returned (.tuple #[.agg #[.int .i64 a, .int .i64 b, .int .i64 m, .int .i64 k, .int .u8 1, .bool true, .int .i64 n, .int .u8 2], .int .i64 0]) ∧ Below W.heap.size W w' from hst)
  have HSP := Lib.hid (show ∀ W, Calls Tryd.prog 13 #[.agg #[.int .i64 a, .int .i64 b, .int .i64 m, .int .i64 k, .int .u8 1, .bool true, .int .i64 n, .int .u8 2], .int .i64 n] W fun e w' => e = .returned (.tuple #[.agg #[.int .i64 a, .int .i64 (min (b + m) 1073741824), .int .i64 m, .int .i64 k, .int .u8 1, .bool false, .int .i64 n, .int .u8 2], .bool true, .int .i64 0]) ∧ Below W.heap.size W w' from hsp)
  obtain ⟨ha, hb, -, -, hm, hk, hh, -, -, hs, hsn, hnT⟩ := ask_bd hn
  clear hst hsp hn
  have q1 := fun W => two_eq a b W
  have MN := Lib.hid (min_walk (b + m) (by omega) (by omega))
  have q2 := fun W => (show Sem.run Tryd.prog (Op.equalIn 10000 24 (.agg #[.int .i64 a, .int .i64 (min (b + m) 1073741824), .int .i64 m, .int .i64 k, .int .u8 1, .bool false, .int .i64 n, .int .u8 2]) (.agg #[.int .i64 a, .int .i64 (min (b + m) 1073741824), .int .i64 m, .int .i64 k, .int .u8 1, .bool false, .int .i64 n, .int .u8 2])) W = .ok true W from ck_eq (a) ((min (b + m) 1073741824)) (m) (k) (1) (false) (n) (2) W)
  obtain ⟨w0, hw0⟩ : ∃ w0, w0 = w.alloc (.cells #[.int .i64 a, .int .i64 b, .int .i64 m, .int .i64 k, .int .u8 h, .bool false, .int .i64 s, .int .u8 2] 24) := ⟨_, rfl⟩
  have HX0 : Hid (w0.heap[w.heap.size]? = some (.cells #[.int .i64 a, .int .i64 b, .int .i64 m, .int .i64 k, .int .u8 h, .bool false, .int .i64 s, .int .u8 2] 24 (0, 0))) := Lib.hid (by rw [hw0]; exact heap_alloc_new _ _)
  have HB0 : Hid (Below w.heap.size w w0) := Lib.hid (by rw [hw0]; exact box_below _ _)
  have HW0 := Lib.hid hw0
  clear hw0
  have HPT := Lib.hid hT
  clear hT
  go_enter Tryd.func4, Tryd.ntmps4
  go_wp2_with fail
  refine (HST.out _).mono ?_
  rintro e w1 ⟨rfl, b1⟩
  rw [← HW0.out] at b1
  have HX1 := Lib.hid ((b1.block _ (heap_lt HX0.out)).trans HX0.out)
  have HB1 := Lib.hid (HB0.out.trans (b1.mono HB0.out.size))
  clear b1
  have hl1 := heap_lt HX1.out
  go_wp2_with fail
  obtain ⟨w2, hw2⟩ : ∃ w2, w2 = w1.alloc (.cells #[.int .i64 a, .int .i64 b, .int .i64 m, .int .i64 k, .int .u8 1, .bool true, .int .i64 n, .int .u8 2] 24) := ⟨_, rfl⟩
  rw [← hw2]
  have HX2 := Lib.hid (show w2.heap[w.heap.size]? = some (.cells #[.int .i64 a, .int .i64 b, .int .i64 m, .int .i64 k, .int .u8 h, .bool false, .int .i64 s, .int .u8 2] 24 (0, 0)) by rw [hw2]; exact heap_older HX1.out)
  have HY2 := Lib.hid (show w2.heap[w1.heap.size]? = some (.cells #[.int .i64 a, .int .i64 b, .int .i64 m, .int .i64 k, .int .u8 1, .bool true, .int .i64 n, .int .u8 2] 24 (0, 0)) by rw [hw2]; exact heap_alloc_new _ _)
  have HB2 := Lib.hid (show Below w.heap.size w w2 by rw [hw2]; exact HB1.out.alloc HB1.out.size _)
  clear hw2
  refine (HSP.out _).mono ?_
  rintro e w3 ⟨rfl, b3⟩
  have HX3 := Lib.hid ((b3.block _ (heap_lt HX2.out)).trans HX2.out)
  have HY3 := Lib.hid ((b3.block _ (heap_lt HY2.out)).trans HY2.out)
  have HB3 := Lib.hid (HB2.out.trans (b3.mono HB2.out.size))
  clear b3
  have hl3 := heap_lt HY3.out
  have hl4 := heap_lt HX3.out
  have x0 := cell_blk (i := 0) HX3.out
  have x1 := cell_blk (i := 1) HX3.out
  have x2 := cell_blk (i := 2) HX3.out
  have x3 := cell_blk (i := 3) HX3.out
  have x4 := cell_blk (i := 4) HX3.out
  have x5 := cell_blk (i := 5) HX3.out
  have x6 := cell_blk (i := 6) HX3.out
  have x7 := cell_blk (i := 7) HX3.out
  simp [ckO] at x0 x1 x2 x3 x4 x5 x6 x7
  go_wp2_with fail
  obtain ⟨w5, hw5⟩ : ∃ w5, w5 = (w3.alloc (.cells #[.int .i64 a, .int .i64 (min (b + m) 1073741824), .int .i64 m, .int .i64 k, .int .u8 1, .bool false, .int .i64 n, .int .u8 2] 24)).alloc (.cells #[.int .i64 a, .int .i64 b, .int .i64 m, .int .i64 k, .int .u8 1, .bool false, .int .i64 n, .int .u8 2] 24) := ⟨_, rfl⟩
  rw [← hw5]
  have HX5 := Lib.hid (show w5.heap[w.heap.size]? = some (.cells #[.int .i64 a, .int .i64 b, .int .i64 m, .int .i64 k, .int .u8 h, .bool false, .int .i64 s, .int .u8 2] 24 (0, 0)) by rw [hw5]; exact heap_older (heap_older HX3.out))
  have HY5 := Lib.hid (show w5.heap[w1.heap.size]? = some (.cells #[.int .i64 a, .int .i64 b, .int .i64 m, .int .i64 k, .int .u8 1, .bool true, .int .i64 n, .int .u8 2] 24 (0, 0)) by rw [hw5]; exact heap_older (heap_older HY3.out))
  have HZ5 := Lib.hid (show w5.heap[w3.heap.size]? = some (.cells #[.int .i64 a, .int .i64 (min (b + m) 1073741824), .int .i64 m, .int .i64 k, .int .u8 1, .bool false, .int .i64 n, .int .u8 2] 24 (0, 0)) by rw [hw5]; exact heap_older (heap_alloc_new _ _))
  have HW5 := Lib.hid (show w5.heap[w3.heap.size + 1]? = some (.cells #[.int .i64 a, .int .i64 b, .int .i64 m, .int .i64 k, .int .u8 1, .bool false, .int .i64 n, .int .u8 2] 24 (0, 0)) by rw [hw5]; exact heap_newer _ _ _ (by simp))
  have HB5 := Lib.hid (show Below w.heap.size w w5 by rw [hw5]; exact (HB3.out.alloc HB3.out.size _).alloc (by have := HB3.out.size; simp; omega) _)
  clear hw5
  clear x0 x1 x2 x3 x4 x5 x6 x7
  have x0 := cell_blk (i := 0) HX5.out
  have x1 := cell_blk (i := 1) HX5.out
  have x2 := cell_blk (i := 2) HX5.out
  have x3 := cell_blk (i := 3) HX5.out
  have x4 := cell_blk (i := 4) HX5.out
  have x5 := cell_blk (i := 5) HX5.out
  have x6 := cell_blk (i := 6) HX5.out
  have x7 := cell_blk (i := 7) HX5.out
  simp [ckO] at x0 x1 x2 x3 x4 x5 x6 x7
  have z0 := cell_blk (i := 0) HW5.out
  have z1 := cell_blk (i := 1) HW5.out
  have z2 := cell_blk (i := 2) HW5.out
  have z3 := cell_blk (i := 3) HW5.out
  have z4 := cell_blk (i := 4) HW5.out
  have z5 := cell_blk (i := 5) HW5.out
  have z6 := cell_blk (i := 6) HW5.out
  have z7 := cell_blk (i := 7) HW5.out
  simp [ckO] at z0 z1 z2 z3 z4 z5 z6 z7
  have zf0 := free_blk (i := 0) HW5.out
  have zf1 := free_blk (i := 1) HW5.out
  have zf2 := free_blk (i := 2) HW5.out
  have zf3 := free_blk (i := 3) HW5.out
  have zf4 := free_blk (i := 4) HW5.out
  have zf5 := free_blk (i := 5) HW5.out
  have zf6 := free_blk (i := 6) HW5.out
  have zf7 := free_blk (i := 7) HW5.out
  refine wp_region_held_drew (S := fun w' => w'.cell? ⟨w.heap.size, 0, none⟩ = some (.int .i64 a) ∧ w'.cell? ⟨w.heap.size, 1, none⟩ = some (.int .i64 b) ∧ w'.cell? ⟨w.heap.size, 2, none⟩ = some (.int .i64 m) ∧ w'.cell? ⟨w.heap.size, 3, none⟩ = some (.int .i64 k) ∧ w'.cell? ⟨w.heap.size, 4, none⟩ = some (.int .u8 h) ∧ w'.cell? ⟨w.heap.size, 5, none⟩ = some (.bool false) ∧ w'.cell? ⟨w.heap.size, 6, none⟩ = some (.int .i64 s) ∧ w'.cell? ⟨w.heap.size, 7, none⟩ = some (.int .u8 2)) (by kernel_rfl) ⟨by simpa using x0, by simpa using x1, by simpa using x2, by simpa using x3, by simpa using x4, by simpa using x5, by simpa using x6, by simpa using x7⟩ (fun hHeld => ?_)
  clear x0 x1 x2 x3 x4 x5 x6 x7
  refine take_at (i := 0) (v := ?_) rfl (by kernel_rfl) (by kernel_rfl) (by kernel_rfl) (fun _ _ _ h => h) (Or.inl ⟨by rfl, ?_⟩) hHeld ?_
  rotate_left
  · intro w hSw
    (try dsimp only at hSw)
    go_simp
    try with_reducible rfl
  try simp only [Act.put, List.setIfInBounds_toArray, List.set_cons_zero, List.set_cons_succ]
  try dsimp only
  refine take_at (i := 1) (v := ?_) rfl (by kernel_rfl) (by kernel_rfl) (by kernel_rfl) (fun _ _ _ h => h) (Or.inl ⟨by rfl, ?_⟩) hHeld ?_
  rotate_left
  · intro w hSw
    (try dsimp only at hSw)
    go_simp
    try with_reducible rfl
  try simp only [Act.put, List.setIfInBounds_toArray, List.set_cons_zero, List.set_cons_succ]
  try dsimp only
  refine take_at (i := 2) (v := ?_) rfl (by kernel_rfl) (by kernel_rfl) (by kernel_rfl) (fun _ _ _ h => h) (Or.inl ⟨by rfl, ?_⟩) hHeld ?_
  rotate_left
  · intro w hSw
    (try dsimp only at hSw)
    go_simp
    try with_reducible rfl
  try simp only [Act.put, List.setIfInBounds_toArray, List.set_cons_zero, List.set_cons_succ]
  try dsimp only
  refine take_at (i := 3) (v := ?_) rfl (by kernel_rfl) (by kernel_rfl) (by kernel_rfl) (fun _ _ _ h => h) (Or.inl ⟨by rfl, ?_⟩) hHeld ?_
  rotate_left
  · intro w hSw
    (try dsimp only at hSw)
    go_simp
    try with_reducible rfl
  try simp only [Act.put, List.setIfInBounds_toArray, List.set_cons_zero, List.set_cons_succ]
  try dsimp only
  refine take_at (i := 4) (v := ?_) rfl (by kernel_rfl) (by kernel_rfl) (by kernel_rfl) (fun _ _ _ h => h) (Or.inl ⟨by rfl, ?_⟩) hHeld ?_
  rotate_left
  · intro w hSw
    (try dsimp only at hSw)
    go_simp
    try with_reducible rfl
  try simp only [Act.put, List.setIfInBounds_toArray, List.set_cons_zero, List.set_cons_succ]
  try dsimp only
  refine take_at (i := 5) (v := ?_) rfl (by kernel_rfl) (by kernel_rfl) (by kernel_rfl) (fun _ _ _ h => h) (Or.inl ⟨by rfl, ?_⟩) hHeld ?_
  rotate_left
  · intro w hSw
    (try dsimp only at hSw)
    go_simp
    try with_reducible rfl
  try simp only [Act.put, List.setIfInBounds_toArray, List.set_cons_zero, List.set_cons_succ]
  try dsimp only
  refine take_at (i := 6) (v := ?_) rfl (by kernel_rfl) (by kernel_rfl) (by kernel_rfl) (fun _ _ _ h => h) (Or.inl ⟨by rfl, ?_⟩) hHeld ?_
  rotate_left
  · intro w hSw
    (try dsimp only at hSw)
    go_simp
    try with_reducible rfl
  try simp only [Act.put, List.setIfInBounds_toArray, List.set_cons_zero, List.set_cons_succ]
  try dsimp only
  refine take_at (i := 7) (v := ?_) rfl (by kernel_rfl) (by kernel_rfl) (by kernel_rfl) (fun _ _ _ h => h) (Or.inl ⟨by rfl, ?_⟩) hHeld ?_
  rotate_left
  · intro w hSw
    (try dsimp only at hSw)
    go_simp
    try with_reducible rfl
  try simp only [Act.put, List.setIfInBounds_toArray, List.set_cons_zero, List.set_cons_succ]
  try dsimp only
  refine take_at (i := 9) (v := ?_) rfl (by kernel_rfl) (by kernel_rfl) (by kernel_rfl) (fun _ _ _ h => h) (Or.inl ⟨by rfl, ?_⟩) hHeld ?_
  rotate_left
  · intro w hSw
    (try dsimp only at hSw)
    go_simp
    try with_reducible rfl
  try simp only [Act.put, List.setIfInBounds_toArray, List.set_cons_zero, List.set_cons_succ]
  try dsimp only
  refine wpAnyH_ready (rs := [8]) (by kernel_rfl) (by simp) ?_
  refine cons_at rfl (fun K hK => ?_) AllReadyH.nil
  go_simp
  refine hK.out _ _ hHeld (fun hHeld => ?_)
  clear hK K
  try simp only [Act.put, List.setIfInBounds_toArray, List.set_cons_zero, List.set_cons_succ]
  try dsimp only
  rw [MN.out]
  refine take_at (i := 10) (v := ?_) rfl (by kernel_rfl) (by kernel_rfl) (by kernel_rfl) (fun _ _ _ h => h) (Or.inl ⟨by rfl, ?_⟩) hHeld ?_
  rotate_left
  · intro w hSw
    (try dsimp only at hSw)
    go_simp
    try with_reducible rfl
  try simp only [Act.put, List.setIfInBounds_toArray, List.set_cons_zero, List.set_cons_succ]
  try dsimp only
  refine wpAnyH_ready (rs := [11]) (by kernel_rfl) (by simp) ?_
  refine cons_at rfl (fun K hK => ?_) AllReadyH.nil
  go_simp
  refine hK.out _ _ ⟨(by exact ck_farr (by show _ ≠ _; dsimp only; omega) hHeld.1), (by exact ck_farr (by show _ ≠ _; dsimp only; omega) hHeld.2.1), (by exact ck_farr (by show _ ≠ _; dsimp only; omega) hHeld.2.2.1), (by exact ck_farr (by show _ ≠ _; dsimp only; omega) hHeld.2.2.2.1), (by exact ck_farr (by show _ ≠ _; dsimp only; omega) hHeld.2.2.2.2.1), (by exact ck_farr (by show _ ≠ _; dsimp only; omega) hHeld.2.2.2.2.2.1), (by exact ck_farr (by show _ ≠ _; dsimp only; omega) hHeld.2.2.2.2.2.2.1), (by exact ck_farr (by show _ ≠ _; dsimp only; omega) hHeld.2.2.2.2.2.2.2)⟩ (fun hHeld => ?_)
  clear hK K
  try simp only [Act.put, List.setIfInBounds_toArray, List.set_cons_zero, List.set_cons_succ]
  try dsimp only
  refine wpAnyH_done (by kernel_rfl) ?_ _
  clear hHeld z0 zf0 z1 zf1 z2 zf2 z3 zf3 z4 zf4 z5 zf5 z6 zf6 z7 zf7
  obtain ⟨w6, hw6⟩ : ∃ w6, w6 = (w5.setCell ⟨w3.heap.size + 1, 1, none⟩ (.int .i64 (min (b + m) 1073741824))).drew := ⟨_, rfl⟩
  rw [← hw6]
  have HX6 := Lib.hid (show w6.heap[w.heap.size]? = some (.cells #[.int .i64 a, .int .i64 b, .int .i64 m, .int .i64 k, .int .u8 h, .bool false, .int .i64 s, .int .u8 2] 24 (0, 0)) by rw [hw6]; show (w5.setCell ⟨w3.heap.size + 1, 1, none⟩ (.int .i64 (min (b + m) 1073741824))).heap[_]? = _; rw [heap_set_far (by show _ ≠ _; dsimp only; omega)]; exact HX5.out)
  have HY6 := Lib.hid (show w6.heap[w1.heap.size]? = some (.cells #[.int .i64 a, .int .i64 b, .int .i64 m, .int .i64 k, .int .u8 1, .bool true, .int .i64 n, .int .u8 2] 24 (0, 0)) by rw [hw6]; show (w5.setCell ⟨w3.heap.size + 1, 1, none⟩ (.int .i64 (min (b + m) 1073741824))).heap[_]? = _; rw [heap_set_far (by show _ ≠ _; dsimp only; omega)]; exact HY5.out)
  have HZ6 := Lib.hid (show w6.heap[w3.heap.size]? = some (.cells #[.int .i64 a, .int .i64 (min (b + m) 1073741824), .int .i64 m, .int .i64 k, .int .u8 1, .bool false, .int .i64 n, .int .u8 2] 24 (0, 0)) by rw [hw6]; show (w5.setCell ⟨w3.heap.size + 1, 1, none⟩ (.int .i64 (min (b + m) 1073741824))).heap[_]? = _; rw [heap_set_far (by show _ ≠ _; dsimp only; omega)]; exact HZ5.out)
  have HW6 := Lib.hid (show w6.heap[w3.heap.size + 1]? = some (.cells #[.int .i64 a, .int .i64 (min (b + m) 1073741824), .int .i64 m, .int .i64 k, .int .u8 1, .bool false, .int .i64 n, .int .u8 2] 24 (0, 0)) by rw [hw6]; show (w5.setCell ⟨w3.heap.size + 1, 1, none⟩ (.int .i64 (min (b + m) 1073741824))).heap[_]? = _; rw [heap_set (i := 1) HW5.out]; rfl)
  have HB6 := Lib.hid (show Below w.heap.size w w6 by rw [hw6]; exact (HB5.out.setCell (by have := HB3.out.size; show _ ≤ _; dsimp only; omega) _).drew)
  clear hw6
  have x0 := cell_blk (i := 0) HX6.out
  have x1 := cell_blk (i := 1) HX6.out
  have x2 := cell_blk (i := 2) HX6.out
  have x3 := cell_blk (i := 3) HX6.out
  have x4 := cell_blk (i := 4) HX6.out
  have x5 := cell_blk (i := 5) HX6.out
  have x6 := cell_blk (i := 6) HX6.out
  have x7 := cell_blk (i := 7) HX6.out
  simp [ckO] at x0 x1 x2 x3 x4 x5 x6 x7
  have y0 := cell_blk (i := 0) HY6.out
  have y1 := cell_blk (i := 1) HY6.out
  have y2 := cell_blk (i := 2) HY6.out
  have y3 := cell_blk (i := 3) HY6.out
  have y4 := cell_blk (i := 4) HY6.out
  have y5 := cell_blk (i := 5) HY6.out
  have y6 := cell_blk (i := 6) HY6.out
  have y7 := cell_blk (i := 7) HY6.out
  simp [ckO] at y0 y1 y2 y3 y4 y5 y6 y7
  have z0 := cell_blk (i := 0) HZ6.out
  have z1 := cell_blk (i := 1) HZ6.out
  have z2 := cell_blk (i := 2) HZ6.out
  have z3 := cell_blk (i := 3) HZ6.out
  have z4 := cell_blk (i := 4) HZ6.out
  have z5 := cell_blk (i := 5) HZ6.out
  have z6 := cell_blk (i := 6) HZ6.out
  have z7 := cell_blk (i := 7) HZ6.out
  simp [ckO] at z0 z1 z2 z3 z4 z5 z6 z7
  have v0 := cell_blk (i := 0) HW6.out
  have v1 := cell_blk (i := 1) HW6.out
  have v2 := cell_blk (i := 2) HW6.out
  have v3 := cell_blk (i := 3) HW6.out
  have v4 := cell_blk (i := 4) HW6.out
  have v5 := cell_blk (i := 5) HW6.out
  have v6 := cell_blk (i := 6) HW6.out
  have v7 := cell_blk (i := 7) HW6.out
  simp [ckO] at v0 v1 v2 v3 v4 v5 v6 v7
  go_wp2_with fail
  refine (lives_any _ (HPT.out.below HB6.out)).mono ?_
  rintro e w7 ⟨rfl, b7⟩
  have HB7 := Lib.hid (HB6.out.trans (b7.mono HB6.out.size))
  clear b7
  go_wp2_with fail
  go_ret
  exact ⟨rfl, HB7.out⟩

end Go.Proofs.YtcemekianoehfaaDoor
