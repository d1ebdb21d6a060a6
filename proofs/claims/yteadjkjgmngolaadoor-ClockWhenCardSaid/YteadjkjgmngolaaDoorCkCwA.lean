/- joustlaw28.ClockWhen, of a clock that stands: walked. (Made by gen/mkck.py.) -/
import Derived.Test.YteadjkjgmngolaaDoorCkLives
namespace Go.Proofs.YteadjkjgmngolaaDoor
open Go.RowKit Go.Lib Go.Sort


theorem cw_ask {a b m k s n : Int} {h : Nat} (hm : mayB a b m k h true s 2 = true) (h1 : s ≤ n) (h2 : n ≤ 1073741824) : askB a b m k h true s 2 n = true := by
  simp only [askB, hm, Bool.true_and, Bool.and_eq_true, timeB_iff, decide_eq_true_eq]
  obtain ⟨-, -, -, -, -, -, -, hs, -, -⟩ := may_bd hm
  omega
theorem cw_fell {a b k s n : Int} {h : Nat} (hl : longI a b k h < n - s) : fallB a b k h true s n = true := by
  simp only [fallB, Bool.true_and]; exact decide_eq_true hl
theorem cw_not {a b k s n : Int} {h : Nat} (hl : n - s ≤ longI a b k h) : fallB a b k h true s n = false := by
  simp only [fallB, Bool.true_and]; exact decide_eq_false (by omega)
theorem cw_look (a b m k s n : Int) (fl : Bool) {h : Nat} (hn : askB a b m k h true s 2 n = true) (hf : fallB a b k h true s n = fl) : lookC a b m k h true s 2 n = (if h = 0 then max (a - (n - s)) 0 else a, if h = 0 then b else max (b - (n - s)) 0, fl, 0) := by
  unfold lookC; rw [if_pos hn, if_pos rfl, hf]
theorem cw_stop1 (a b m k s n : Int) {h : Nat} (hn : askB a b m k h true s 2 n = true) (hf : fallB a b k h true s n = true) : stopC a b m k h true s 2 n = (⟨if h = 0 then 0 else a, if h = 0 then b else 0, m, k, h, false, n, h⟩, false, 0) := by
  unfold stopC; rw [if_pos hn, if_pos rfl, if_pos hf]
theorem cw_stop0 (a b m k s n : Int) {h : Nat} (hn : askB a b m k h true s 2 n = true) (hf : fallB a b k h true s n = false) : stopC a b m k h true s 2 n = (⟨if h = 0 then fillI (a - (n - s)) m else a, if h = 0 then b else fillI (b - (n - s)) m, m, k, h, false, n, 2⟩, true, 0) := by
  unfold stopC; rw [if_pos hn, if_pos rfl, if_neg (by simp [hf])]
/-- Where the law looks: at or ahead of the last tick. -/
def atI (early z s : Int) : Int := z - ((early.tmod (z - s + 1) + z - s + 1).tmod (z - s + 1))
theorem at_bd {early z s : Int} (hs : 0 ≤ s) (hz : s ≤ z) : s ≤ atI early z s ∧ atI early z s ≤ z := by
  unfold atI
  have h1 := Int.lt_tmod_of_pos early (b := z - s + 1) (by omega)
  have h2 := Int.tmod_lt_of_pos early (b := z - s + 1) (by omega)
  have h3 := Int.tmod_lt_of_pos (early.tmod (z - s + 1) + z - s + 1) (b := z - s + 1) (by omega)
  have h4 : 0 ≤ (early.tmod (z - s + 1) + z - s + 1).tmod (z - s + 1) := Int.tmod_nonneg _ (by omega)
  omega
set_option maxHeartbeats 16000000 in
set_option maxRecDepth 100000 in
theorem cwhen_noa (a b m k : Int) (h : Nat) (on : Bool) (s : Int) (f : Nat) (early : Int) (hm : mayB a b m k h on s f = false) (w : World) (hT : PTab w) : Calls Tryd.prog 4 #[ckV a b m k h on s f, .int .i64 early] w fun e w' => e = .returned (.bool true) ∧ Below w.heap.size w w' := by
  have hw := fun W => when_any a b m k h on s f W
  rw [show whenC a b m k h on s f = (0, false) by unfold whenC; rw [if_neg (by simp [hm])]] at hw
  have HW := Lib.hid hw
  have hcm := fun W => may_any a b m k h on s f W
  rw [hm] at hcm
  have CM := Lib.hid hcm
  clear hw hcm hm
  obtain ⟨w0, hw0⟩ : ∃ w0, w0 = w.alloc (.cells #[.int .i64 a, .int .i64 b, .int .i64 m, .int .i64 k, .int .u8 h, .bool on, .int .i64 s, .int .u8 f] 24) := ⟨_, rfl⟩
  have HX0 : Hid (w0.heap[w.heap.size]? = some (.cells #[.int .i64 a, .int .i64 b, .int .i64 m, .int .i64 k, .int .u8 h, .bool on, .int .i64 s, .int .u8 f] 24 (0, 0))) := Lib.hid (by rw [hw0]; exact heap_alloc_new _ _)
  have HB0 : Hid (Below w.heap.size w w0) := Lib.hid (by rw [hw0]; exact box_below _ _)
  have HW0 := Lib.hid hw0
  clear hw0
  have HPT := Lib.hid hT
  clear hT
  go_enter Tryd.func4, Tryd.ntmps4
  go_wp2_with fail
  refine (HW.out _).mono ?_
  rintro e w1 ⟨rfl, b1⟩
  rw [← HW0.out] at b1
  have HX1 := Lib.hid ((b1.block _ (heap_lt HX0.out)).trans HX0.out)
  have HB1 := Lib.hid (HB0.out.trans (b1.mono HB0.out.size))
  clear b1
  have x0 := cell_blk (i := 0) HX1.out
  have x1 := cell_blk (i := 1) HX1.out
  have x2 := cell_blk (i := 2) HX1.out
  have x3 := cell_blk (i := 3) HX1.out
  have x4 := cell_blk (i := 4) HX1.out
  have x5 := cell_blk (i := 5) HX1.out
  have x6 := cell_blk (i := 6) HX1.out
  have x7 := cell_blk (i := 7) HX1.out
  simp [ckO] at x0 x1 x2 x3 x4 x5 x6 x7
  go_wp2_with fail
  refine (CM.out _).mono ?_
  rintro e w2 ⟨rfl, b2⟩
  have HX2 := Lib.hid ((b2.block _ (heap_lt HX1.out)).trans HX1.out)
  have HB2 := Lib.hid (HB1.out.trans (b2.mono HB1.out.size))
  clear b2
  clear x0 x1 x2 x3 x4 x5 x6 x7
  have x0 := cell_blk (i := 0) HX2.out
  have x1 := cell_blk (i := 1) HX2.out
  have x2 := cell_blk (i := 2) HX2.out
  have x3 := cell_blk (i := 3) HX2.out
  have x4 := cell_blk (i := 4) HX2.out
  have x5 := cell_blk (i := 5) HX2.out
  have x6 := cell_blk (i := 6) HX2.out
  have x7 := cell_blk (i := 7) HX2.out
  simp [ckO] at x0 x1 x2 x3 x4 x5 x6 x7
  go_wp2_with fail
  refine (lives_any _ (HPT.out.below HB2.out)).mono ?_
  rintro e w3 ⟨rfl, b3⟩
  have HB3 := Lib.hid (HB2.out.trans (b3.mono HB2.out.size))
  clear b3
  go_wp2_with fail
  go_ret
  exact ⟨rfl, HB3.out⟩

set_option maxHeartbeats 16000000 in
set_option maxRecDepth 100000 in
theorem cwhen_nob (a b m k : Int) (h : Nat) (s : Int) (f : Nat) (early : Int) (hm : mayB a b m k h false s f = true) (w : World) (hT : PTab w) : Calls Tryd.prog 4 #[ckV a b m k h false s f, .int .i64 early] w fun e w' => e = .returned (.bool true) ∧ Below w.heap.size w w' := by
  have hw := fun W => when_any a b m k h false s f W
  rw [show whenC a b m k h false s f = (0, false) by unfold whenC; rw [if_neg (by simp [hm])]] at hw
  have HW := Lib.hid hw
  have hcm := fun W => may_any a b m k h false s f W
  rw [hm] at hcm
  have CM := Lib.hid hcm
  clear hw hcm hm
  obtain ⟨w0, hw0⟩ : ∃ w0, w0 = w.alloc (.cells #[.int .i64 a, .int .i64 b, .int .i64 m, .int .i64 k, .int .u8 h, .bool false, .int .i64 s, .int .u8 f] 24) := ⟨_, rfl⟩
  have HX0 : Hid (w0.heap[w.heap.size]? = some (.cells #[.int .i64 a, .int .i64 b, .int .i64 m, .int .i64 k, .int .u8 h, .bool false, .int .i64 s, .int .u8 f] 24 (0, 0))) := Lib.hid (by rw [hw0]; exact heap_alloc_new _ _)
  have HB0 : Hid (Below w.heap.size w w0) := Lib.hid (by rw [hw0]; exact box_below _ _)
  have HW0 := Lib.hid hw0
  clear hw0
  have HPT := Lib.hid hT
  clear hT
  go_enter Tryd.func4, Tryd.ntmps4
  go_wp2_with fail
  refine (HW.out _).mono ?_
  rintro e w1 ⟨rfl, b1⟩
  rw [← HW0.out] at b1
  have HX1 := Lib.hid ((b1.block _ (heap_lt HX0.out)).trans HX0.out)
  have HB1 := Lib.hid (HB0.out.trans (b1.mono HB0.out.size))
  clear b1
  have x0 := cell_blk (i := 0) HX1.out
  have x1 := cell_blk (i := 1) HX1.out
  have x2 := cell_blk (i := 2) HX1.out
  have x3 := cell_blk (i := 3) HX1.out
  have x4 := cell_blk (i := 4) HX1.out
  have x5 := cell_blk (i := 5) HX1.out
  have x6 := cell_blk (i := 6) HX1.out
  have x7 := cell_blk (i := 7) HX1.out
  simp [ckO] at x0 x1 x2 x3 x4 x5 x6 x7
  go_wp2_with fail
  refine (CM.out _).mono ?_
  rintro e w2 ⟨rfl, b2⟩
  have HX2 := Lib.hid ((b2.block _ (heap_lt HX1.out)).trans HX1.out)
  have HB2 := Lib.hid (HB1.out.trans (b2.mono HB1.out.size))
  clear b2
  clear x0 x1 x2 x3 x4 x5 x6 x7
  have x0 := cell_blk (i := 0) HX2.out
  have x1 := cell_blk (i := 1) HX2.out
  have x2 := cell_blk (i := 2) HX2.out
  have x3 := cell_blk (i := 3) HX2.out
  have x4 := cell_blk (i := 4) HX2.out
  have x5 := cell_blk (i := 5) HX2.out
  have x6 := cell_blk (i := 6) HX2.out
  have x7 := cell_blk (i := 7) HX2.out
  simp [ckO] at x0 x1 x2 x3 x4 x5 x6 x7
  go_wp2_with fail
  refine (lives_any _ (HPT.out.below HB2.out)).mono ?_
  rintro e w3 ⟨rfl, b3⟩
  have HB3 := Lib.hid (HB2.out.trans (b3.mono HB2.out.size))
  clear b3
  go_wp2_with fail
  go_ret
  exact ⟨rfl, HB3.out⟩

end Go.Proofs.YteadjkjgmngolaaDoor
