import Derived.Test.YtlbbabojejimpaaQTbMOf
/- might.Of of a table that may be, from whatever number, of a piece that is there. -/
namespace Go.Proofs.Ytlbbabojejimpaa
open Go.RowKit Go.Lib

theorem might_there_no (t : Tb) (i : Int) (w : World) (h : ¬ (0 ≤ i ∧ i < t.np)) : Calls Try.prog 38 #[.agg t.row, .int .i64 i] w fun e w' => e = .returned (.bool false) ∧ Below w.heap.size w w' := by
  simp only [Tb.row]
  by_cases h0 : i ≥ 0
  · have h1 : ¬ i < (t.np : Int) := by omega
    go_enter Try.func38, Try.ntmps38
    go_wp2_with fail
    go_ret
    exact ⟨rfl, (Below.refl _ _).alloc (Nat.le_refl _) _⟩
  · go_enter Try.func38, Try.ntmps38
    go_wp2_with fail
    go_ret
    exact ⟨rfl, (Below.refl _ _).alloc (Nat.le_refl _) _⟩
/-- Whether a piece is one of a Sel, of whatever number it is told. -/
def ofI (xs : List Cd) (ps : List Pc) (who : Nat) (i : Int) (s : Sl) (j : Nat) : Bool := match ps[j]? with
  | some p => decide (0 ≤ i ∧ i < ps.length) && ofB xs p who i s j
  | none => false
set_option maxHeartbeats 4000000 in
set_option maxRecDepth 100000 in
theorem mof_no (t : Tb) (xs : List Cd) (ps : List Pc) (i : Int) (j : Nat) (who : Nat) (s : Sl) (w : World) (hT : TabIn w t xs ps) (hL : LifeOk t) (hG : GoodB xs ps) (hi : ¬ (0 ≤ i ∧ i < t.np)) (hw : who ≤ 1) :
    Calls Try.prog 37 #[.agg t.row, .int .u8 who, .int .i64 i, .agg #[.int .u8 s.side, .int .u8 s.zone, .int .u8 s.kind], .int .i64 (j : Int)] w fun e w' => e = .returned (.bool false) ∧ Below w.heap.size w w' := by
  obtain ⟨sd, sz, sk⟩ := s
  have hmay := Lib.hid fun (W : World) (hb : Below w.heap.size w W) => bmay_yes t xs ps W (hT.below hb) hL hG
  have hthi := Lib.hid fun (W : World) => might_there_no t i W hi
  have h1 : (who : Int) ≤ 1 := by omega
  obtain ⟨w0, hw0⟩ : ∃ w0, w0 = (w.alloc (.cells t.row 28)).alloc (.cells #[.int .u8 sd, .int .u8 sz, .int .u8 sk] 30) := ⟨_, rfl⟩
  have hb0 : Below w.heap.size w w0 := by rw [hw0]; exact ((Below.refl _ _).alloc (Nat.le_refl _) _).alloc (by simp) _
  have hx0 : w0.heap[w.heap.size]? = some (.cells t.row 28 (0, 0)) := by rw [hw0]; exact heap_older (heap_alloc_new _ _)
  have HB0 := Lib.hid hb0
  have HX0 := Lib.hid hx0
  have HW0 := Lib.hid hw0
  clear hT hL hG hi hb0 hx0 hw0 hw
  simp only [Tb.row] at *
  go_enter Try.func37, Try.ntmps37
  go_wp2_with fail
  rw [← HW0.out]
  refine (hmay.out w0 HB0.out).mono ?_
  rintro e w1 ⟨rfl, b1⟩
  have B1 := Lib.hid (HB0.out.trans (b1.mono HB0.out.size))
  have X1 := Lib.hid ((b1.block _ (heap_lt HX0.out)).trans HX0.out)
  clear b1
  have y0 := cell_blk (i := 0) X1.out
  have y1 := cell_blk (i := 1) X1.out
  have y2 := cell_blk (i := 2) X1.out
  have y3 := cell_blk (i := 3) X1.out
  have y4 := cell_blk (i := 4) X1.out
  have y5 := cell_blk (i := 5) X1.out
  have y6 := cell_blk (i := 6) X1.out
  have y7 := cell_blk (i := 7) X1.out
  have y8 := cell_blk (i := 8) X1.out
  have y9 := cell_blk (i := 9) X1.out
  simp at y0 y1 y2 y3 y4 y5 y6 y7 y8 y9
  go_wp2_with fail
  refine (hthi.out w1).mono ?_
  rintro e w2 ⟨rfl, b2⟩
  have B2 := Lib.hid (B1.out.trans (b2.mono B1.out.size))
  clear b2 y0 y1 y2 y3 y4 y5 y6 y7 y8 y9
  go_wp2_with fail
  go_ret
  exact ⟨rfl, B2.out⟩
theorem mofi_any (t : Tb) (xs : List Cd) (ps : List Pc) (i : Int) (j : Nat) (who : Nat) (s : Sl) (w : World) (hT : TabIn w t xs ps) (hL : LifeOk t) (hG : GoodB xs ps) (hj : j < ps.length) (hw : who ≤ 1) :
    Calls Try.prog 37 #[.agg t.row, .int .u8 who, .int .i64 i, .agg #[.int .u8 s.side, .int .u8 s.zone, .int .u8 s.kind], .int .i64 (j : Int)] w fun e w' => e = .returned (.bool (ofI xs ps who i s j)) ∧ Below w.heap.size w w' := by
  have hp : ps[j]? = some ps[j] := List.getElem?_eq_getElem _
  have hnp := hT.np.1
  unfold ofI
  rw [hp]
  dsimp only
  by_cases hi : 0 ≤ i ∧ i < ps.length
  · rw [decide_eq_true hi, Bool.true_and]
    obtain ⟨k, rfl⟩ : ∃ k : Nat, i = k := ⟨i.toNat, by omega⟩
    exact mof_any t xs ps k j ps[k] ps[j] who s w hT hL hG (List.getElem?_eq_getElem (by omega)) hp hw
  · rw [decide_eq_false hi, Bool.false_and]
    exact mof_no t xs ps i j who s w hT hL hG (by rw [hnp]; exact hi) hw
end Go.Proofs.Ytlbbabojejimpaa
