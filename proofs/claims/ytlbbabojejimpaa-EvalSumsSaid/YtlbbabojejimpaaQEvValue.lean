import Derived.Test.YtlbbabojejimpaaQEvAny
import Derived.Test.YtlbbabojejimpaaQTbBMayNo
/- eval.Value: what an expression comes to on a table; 0 of a table that may not be, of no player. -/
namespace Go.Proofs.Ytlbbabojejimpaa
open Go.RowKit Go.Lib

set_option maxHeartbeats 8000000 in
set_option maxRecDepth 100000 in
theorem Value_yes (t : Tb) (xs : List Cd) (ps : List Pc) (who : Nat) (i : Int) (x : Ex) (xq : Option Addr) (xn xc : Nat) (w : World) (hT : TabIn w t xs ps) (hL : LifeOk t) (hG : GoodB xs ps) (hf : FewIn xs) (hw : who ≤ 1) (D : Nat) (hx : ∀ W, Below w.heap.size w W → ExC D W (exV x (.slice xq xn xc)) x) :
    Calls Try.prog 7 #[.agg t.row, .int .u8 who, .int .i64 i, .agg (exV x (.slice xq xn xc)).toArray] w fun e w' => e = .returned (.int .i64 ((valE t xs ps who i 6 x).getD 0)) ∧ Below w.heap.size w w' := by
  have hmay := Lib.hid fun (W : World) (hb : Below w.heap.size w W) => bmay_yes t xs ps W (hT.below hb) hL hG
  have hval : Hid (∀ W, Below w.heap.size w W → Calls Try.prog 16 #[.agg t.row, .int .u8 who, .int .i64 i, .agg (exV x (.slice xq xn xc)).toArray, .int .i64 6] W (ValEnds (valE t xs ps who i 6 x) W)) := Lib.hid fun W hb => value_any t xs ps who i w hT hL hG hf hw 6 (by omega) D x _ W hb (hx W hb)
  have hw1 : ¬ (who : Int) > 1 := by omega
  clear hL hG hf hx hw
  obtain ⟨r, hr⟩ : ∃ r, valE t xs ps who i 6 x = r := ⟨_, rfl⟩
  rw [hr] at hval ⊢
  clear hr
  obtain ⟨w0, hw0⟩ : ∃ w0, w0 = (w.alloc (.cells t.row 28)).alloc (.cells (exV x (.slice xq xn xc)).toArray 33) := ⟨_, rfl⟩
  have hb0 : Below w.heap.size w w0 := by rw [hw0]; exact ((Below.refl _ _).alloc (Nat.le_refl _) _).alloc (by simp) _
  have hx0 : w0.heap[w.heap.size]? = some (.cells t.row 28 (0, 0)) := by rw [hw0]; exact heap_older (heap_alloc_new _ _)
  have hy0 : w0.heap[w.heap.size + 1]? = some (.cells (exV x (.slice xq xn xc)).toArray 33 (0, 0)) := by rw [hw0]; exact heap_newer _ _ _ (by simp)
  have HB0 := Lib.hid hb0
  have HX0 := Lib.hid hx0
  have HY0 := Lib.hid hy0
  have HW0 := Lib.hid hw0
  clear hT hb0 hx0 hy0 hw0
  simp only [Tb.row, exV] at *
  go_enter Try.func7, Try.ntmps7
  go_wp2_with fail
  rw [← HW0.out]
  refine (hmay.out w0 HB0.out).mono ?_
  rintro e w1 ⟨rfl, b1⟩
  have HB1 := Lib.hid (HB0.out.trans (b1.mono HB0.out.size))
  have HX1 := Lib.hid ((b1.block _ (heap_lt HX0.out)).trans HX0.out)
  have HY1 := Lib.hid ((b1.block _ (heap_lt HY0.out)).trans HY0.out)
  clear b1
  have y0 := cell_blk (i := 0) HX1.out
  have y1 := cell_blk (i := 1) HX1.out
  have y2 := cell_blk (i := 2) HX1.out
  have y3 := cell_blk (i := 3) HX1.out
  have y4 := cell_blk (i := 4) HX1.out
  have y5 := cell_blk (i := 5) HX1.out
  have y6 := cell_blk (i := 6) HX1.out
  have y7 := cell_blk (i := 7) HX1.out
  have y8 := cell_blk (i := 8) HX1.out
  have y9 := cell_blk (i := 9) HX1.out
  simp at y0 y1 y2 y3 y4 y5 y6 y7 y8 y9
  have z0 := cell_blk (i := 0) HY1.out
  have z1 := cell_blk (i := 1) HY1.out
  have z2 := cell_blk (i := 2) HY1.out
  have z3 := cell_blk (i := 3) HY1.out
  have z4 := cell_blk (i := 4) HY1.out
  have z5 := cell_blk (i := 5) HY1.out
  have z6 := cell_blk (i := 6) HY1.out
  simp at z0 z1 z2 z3 z4 z5 z6
  go_wp2_with fail
  refine (hval.out w1 HB1.out).mono ?_
  rintro e w2 ⟨rfl, b2⟩
  have HB2 := Lib.hid (HB1.out.trans (b2.mono HB1.out.size))
  clear b2
  go_wp2_with fail
  go_ret
  exact ⟨rfl, HB2.out⟩

set_option maxHeartbeats 8000000 in
set_option maxRecDepth 100000 in
theorem Value_who (t : Tb) (xs : List Cd) (ps : List Pc) (who : Nat) (i : Int) (x : Ex) (xq : Option Addr) (xn xc : Nat) (w : World) (hT : TabIn w t xs ps) (hL : LifeOk t) (hG : GoodB xs ps) (hw : who > 1) :
    Calls Try.prog 7 #[.agg t.row, .int .u8 who, .int .i64 i, .agg (exV x (.slice xq xn xc)).toArray] w fun e w' => e = .returned (.int .i64 (0)) ∧ Below w.heap.size w w' := by
  have hmay := Lib.hid fun (W : World) (hb : Below w.heap.size w W) => bmay_yes t xs ps W (hT.below hb) hL hG
  have hw1 : (who : Int) > 1 := by omega
  clear hL hG hw
  obtain ⟨w0, hw0⟩ : ∃ w0, w0 = (w.alloc (.cells t.row 28)).alloc (.cells (exV x (.slice xq xn xc)).toArray 33) := ⟨_, rfl⟩
  have hb0 : Below w.heap.size w w0 := by rw [hw0]; exact ((Below.refl _ _).alloc (Nat.le_refl _) _).alloc (by simp) _
  have hx0 : w0.heap[w.heap.size]? = some (.cells t.row 28 (0, 0)) := by rw [hw0]; exact heap_older (heap_alloc_new _ _)
  have hy0 : w0.heap[w.heap.size + 1]? = some (.cells (exV x (.slice xq xn xc)).toArray 33 (0, 0)) := by rw [hw0]; exact heap_newer _ _ _ (by simp)
  have HB0 := Lib.hid hb0
  have HX0 := Lib.hid hx0
  have HY0 := Lib.hid hy0
  have HW0 := Lib.hid hw0
  clear hT hb0 hx0 hy0 hw0
  simp only [Tb.row, exV] at *
  go_enter Try.func7, Try.ntmps7
  go_wp2_with fail
  rw [← HW0.out]
  refine (hmay.out w0 HB0.out).mono ?_
  rintro e w1 ⟨rfl, b1⟩
  have HB1 := Lib.hid (HB0.out.trans (b1.mono HB0.out.size))
  have HX1 := Lib.hid ((b1.block _ (heap_lt HX0.out)).trans HX0.out)
  have HY1 := Lib.hid ((b1.block _ (heap_lt HY0.out)).trans HY0.out)
  clear b1
  go_wp2_with fail
  go_ret
  exact ⟨rfl, HB1.out⟩

set_option maxHeartbeats 8000000 in
set_option maxRecDepth 100000 in
theorem Value_no (t : Tb) (xs : List Cd) (ps : List Pc) (who : Nat) (i : Int) (x : Ex) (xq : Option Addr) (xn xc : Nat) (w : World) (hT : TabIn w t xs ps) (hN : ¬ (LifeOk t ∧ GoodB xs ps)) :
    Calls Try.prog 7 #[.agg t.row, .int .u8 who, .int .i64 i, .agg (exV x (.slice xq xn xc)).toArray] w fun e w' => e = .returned (.int .i64 (0)) ∧ Below w.heap.size w w' := by
  have hmay := Lib.hid fun (W : World) (hb : Below w.heap.size w W) => bmay_no t xs ps W (hT.below hb) hN
  clear hN
  obtain ⟨w0, hw0⟩ : ∃ w0, w0 = (w.alloc (.cells t.row 28)).alloc (.cells (exV x (.slice xq xn xc)).toArray 33) := ⟨_, rfl⟩
  have hb0 : Below w.heap.size w w0 := by rw [hw0]; exact ((Below.refl _ _).alloc (Nat.le_refl _) _).alloc (by simp) _
  have hx0 : w0.heap[w.heap.size]? = some (.cells t.row 28 (0, 0)) := by rw [hw0]; exact heap_older (heap_alloc_new _ _)
  have hy0 : w0.heap[w.heap.size + 1]? = some (.cells (exV x (.slice xq xn xc)).toArray 33 (0, 0)) := by rw [hw0]; exact heap_newer _ _ _ (by simp)
  have HB0 := Lib.hid hb0
  have HX0 := Lib.hid hx0
  have HY0 := Lib.hid hy0
  have HW0 := Lib.hid hw0
  clear hT hb0 hx0 hy0 hw0
  simp only [Tb.row, exV] at *
  go_enter Try.func7, Try.ntmps7
  go_wp2_with fail
  rw [← HW0.out]
  refine (hmay.out w0 HB0.out).mono ?_
  rintro e w1 ⟨rfl, b1⟩
  have HB1 := Lib.hid (HB0.out.trans (b1.mono HB0.out.size))
  have HX1 := Lib.hid ((b1.block _ (heap_lt HX0.out)).trans HX0.out)
  have HY1 := Lib.hid ((b1.block _ (heap_lt HY0.out)).trans HY0.out)
  clear b1
  go_wp2_with fail
  go_ret
  exact ⟨rfl, HB1.out⟩
end Go.Proofs.Ytlbbabojejimpaa
