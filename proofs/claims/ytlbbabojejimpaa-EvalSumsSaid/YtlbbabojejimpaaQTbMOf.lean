import Derived.Test.YtlbbabojejimpaaQTbMono
/- might.Of of a table that may be, of pieces that are there. -/
namespace Go.Proofs.Ytlbbabojejimpaa
open Go.RowKit Go.Lib

set_option maxHeartbeats 4000000 in
set_option maxRecDepth 100000 in
theorem mof_any (t : Tb) (xs : List Cd) (ps : List Pc) (i j : Nat) (q p : Pc) (who : Nat) (s : Sl) (w : World) (hT : TabIn w t xs ps) (hL : LifeOk t) (hG : GoodB xs ps) (hi : ps[i]? = some q) (hj : ps[j]? = some p) (hw : who ≤ 1) :
    Calls Try.prog 37 #[.agg t.row, .int .u8 who, .int .i64 (i : Int), .agg #[.int .u8 s.side, .int .u8 s.zone, .int .u8 s.kind], .int .i64 (j : Int)] w fun e w' => e = .returned (.bool (ofB xs p who i s j)) ∧ Below w.heap.size w w' := by
  obtain ⟨sd, sz, sk⟩ := s
  have hnp := hT.np.1
  have hin : i < t.np := by rw [hnp]; exact (List.getElem?_eq_some_iff.1 hi).1
  have hjn : j < t.np := by rw [hnp]; exact (List.getElem?_eq_some_iff.1 hj).1
  have hmay := Lib.hid fun (W : World) (hb : Below w.heap.size w W) => bmay_yes t xs ps W (hT.below hb) hL hG
  have hthi := Lib.hid fun (W : World) => might_there_yes t i W hin
  have hthj := Lib.hid fun (W : World) => might_there_yes t j W hjn
  have hof := Lib.hid fun (W : World) (hb : Below w.heap.size w W) => of_any t xs ps j p who i ⟨sd, sz, sk⟩ W (hT.below hb) hj (hG.one p (List.mem_of_getElem? hj)).zn
  dsimp only at hof
  obtain ⟨r, hr⟩ : ∃ r, ofB xs p who i ⟨sd, sz, sk⟩ j = r := ⟨_, rfl⟩
  rw [hr] at hof ⊢
  have h1 : (who : Int) ≤ 1 := by omega
  obtain ⟨w0, hw0⟩ : ∃ w0, w0 = (w.alloc (.cells t.row 28)).alloc (.cells #[.int .u8 sd, .int .u8 sz, .int .u8 sk] 30) := ⟨_, rfl⟩
  have hb0 : Below w.heap.size w w0 := by rw [hw0]; exact ((Below.refl _ _).alloc (Nat.le_refl _) _).alloc (by simp) _
  have hx0 : w0.heap[w.heap.size]? = some (.cells t.row 28 (0, 0)) := by rw [hw0]; exact heap_older (heap_alloc_new _ _)
  have hy0 : w0.heap[w.heap.size + 1]? = some (.cells #[.int .u8 sd, .int .u8 sz, .int .u8 sk] 30 (0, 0)) := by rw [hw0]; exact heap_newer _ _ _ (by simp)
  have HB0 := Lib.hid hb0
  have HX0 := Lib.hid hx0
  have HY0 := Lib.hid hy0
  have HW0 := Lib.hid hw0
  clear hT hL hG hi hj hb0 hx0 hy0 hw0 hnp hr hw
  simp only [Tb.row] at *
  go_enter Try.func37, Try.ntmps37
  go_wp2_with fail
  rw [← HW0.out]
  refine (hmay.out w0 HB0.out).mono ?_
  rintro e w1 ⟨rfl, b1⟩
  have B1 := Lib.hid (HB0.out.trans (b1.mono HB0.out.size))
  have X1 := Lib.hid ((b1.block _ (heap_lt HX0.out)).trans HX0.out)
  have Y1 := Lib.hid ((b1.block _ (heap_lt HY0.out)).trans HY0.out)
  clear b1
  have y0 := cell_blk (i := 0) X1.out
  have y1 := cell_blk (i := 1) X1.out
  have y2 := cell_blk (i := 2) X1.out
  have y3 := cell_blk (i := 3) X1.out
  have y4 := cell_blk (i := 4) X1.out
  have y5 := cell_blk (i := 5) X1.out
  have y6 := cell_blk (i := 6) X1.out
  have y7 := cell_blk (i := 7) X1.out
  have y8 := cell_blk (i := 8) X1.out
  have y9 := cell_blk (i := 9) X1.out
  have z0 := cell_blk (i := 0) Y1.out
  have z1 := cell_blk (i := 1) Y1.out
  have z2 := cell_blk (i := 2) Y1.out
  simp at y0 y1 y2 y3 y4 y5 y6 y7 y8 y9 z0 z1 z2
  go_wp2_with fail
  refine (hthi.out w1).mono ?_
  rintro e w2 ⟨rfl, b2⟩
  have B2 := Lib.hid (B1.out.trans (b2.mono B1.out.size))
  have X2 := Lib.hid ((b2.block _ (heap_lt X1.out)).trans X1.out)
  have Y2 := Lib.hid ((b2.block _ (heap_lt Y1.out)).trans Y1.out)
  clear b2 y0 y1 y2 y3 y4 y5 y6 y7 y8 y9 z0 z1 z2
  have y0 := cell_blk (i := 0) X2.out
  have y1 := cell_blk (i := 1) X2.out
  have y2 := cell_blk (i := 2) X2.out
  have y3 := cell_blk (i := 3) X2.out
  have y4 := cell_blk (i := 4) X2.out
  have y5 := cell_blk (i := 5) X2.out
  have y6 := cell_blk (i := 6) X2.out
  have y7 := cell_blk (i := 7) X2.out
  have y8 := cell_blk (i := 8) X2.out
  have y9 := cell_blk (i := 9) X2.out
  have z0 := cell_blk (i := 0) Y2.out
  have z1 := cell_blk (i := 1) Y2.out
  have z2 := cell_blk (i := 2) Y2.out
  simp at y0 y1 y2 y3 y4 y5 y6 y7 y8 y9 z0 z1 z2
  go_wp2_with fail
  refine (hthj.out w2).mono ?_
  rintro e w3 ⟨rfl, b3⟩
  have B3 := Lib.hid (B2.out.trans (b3.mono B2.out.size))
  have X3 := Lib.hid ((b3.block _ (heap_lt X2.out)).trans X2.out)
  have Y3 := Lib.hid ((b3.block _ (heap_lt Y2.out)).trans Y2.out)
  clear b3 y0 y1 y2 y3 y4 y5 y6 y7 y8 y9 z0 z1 z2
  have y0 := cell_blk (i := 0) X3.out
  have y1 := cell_blk (i := 1) X3.out
  have y2 := cell_blk (i := 2) X3.out
  have y3 := cell_blk (i := 3) X3.out
  have y4 := cell_blk (i := 4) X3.out
  have y5 := cell_blk (i := 5) X3.out
  have y6 := cell_blk (i := 6) X3.out
  have y7 := cell_blk (i := 7) X3.out
  have y8 := cell_blk (i := 8) X3.out
  have y9 := cell_blk (i := 9) X3.out
  have z0 := cell_blk (i := 0) Y3.out
  have z1 := cell_blk (i := 1) Y3.out
  have z2 := cell_blk (i := 2) Y3.out
  simp at y0 y1 y2 y3 y4 y5 y6 y7 y8 y9 z0 z1 z2
  go_wp2_with fail
  refine (hof.out w3 B3.out).mono ?_
  rintro e w4 ⟨rfl, b4⟩
  have B4 := Lib.hid (B3.out.trans (b4.mono B3.out.size))
  clear b4
  go_wp2_with fail
  go_ret
  exact ⟨rfl, B4.out⟩
end Go.Proofs.Ytlbbabojejimpaa
