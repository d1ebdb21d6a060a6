/- The table that the document tells of is as it tells. -/
import Derived.Test.YtomhlgamdmcneaaTbTable
namespace Go.Proofs.Ytomhlgamdmcneaa
open Go.RowKit Go.Lib

theorem three_good : GoodB twoX threeP := by
  refine ⟨by decide, ?_, ?_, ?_, by decide⟩
  · intro p hp
    simp [threeP] at hp
    rcases hp with rfl | rfl | rfl <;> exact ⟨by decide, by decide, by decide, by decide, by decide, by decide, by decide, by decide, by decide, by decide, by decide, by decide, by decide⟩
  · intro p hp _ _
    simp [threeP] at hp
    rcases hp with rfl | rfl | rfl <;> decide
  · intro p hp _ _ _
    simp [threeP] at hp
    rcases hp with rfl | rfl | rfl <;> decide
theorem two_few : FewIn twoX := by
  intro x hx
  simp [twoX] at hx
  rcases hx with rfl | rfl
  · exact ⟨by decide, fun e he => by simp at he; subst he; decide⟩
  · exact ⟨by decide, fun e he => by simp at he⟩
theorem at0 : attackA twoX threeP ⟨0, 1000, 0, 0, 0, 2, 0, true, false, 0, 0, false, false, 0⟩ 0 = 1300 := by decide
theorem at1 : attackA twoX threeP ⟨1, 500, 0, 0, 0, 2, 1, false, true, 0, 0, false, false, 0⟩ 1 = 500 := by decide
theorem at2 : attackA twoX threeP ⟨1, 500, 0, 1, 1, 2, 0, true, false, 0, 0, false, false, 0⟩ 2 = 500 := by decide
theorem of1 : ofB twoX ⟨1, 500, 0, 0, 0, 2, 1, false, true, 0, 0, false, false, 0⟩ 0 (0 : Nat) ⟨0, 2, 0⟩ (1 : Nat) = true := by decide

set_option maxHeartbeats 4000000 in
set_option maxRecDepth 100000 in
theorem lives_any (w : World) : Calls Try.prog 7 #[] w fun e w' => e = .returned (.bool true) ∧ Below w.heap.size w w' := by
  have htab := Lib.hid (table_any w)
  go_enter Try.func7, Try.ntmps7
  go_wp2_with fail
  refine htab.out.mono ?_
  rintro e w0 ⟨⟨t, rfl, hT0, hL⟩, b0⟩
  obtain ⟨w1, hw1⟩ : ∃ w1, w1 = w0.alloc (.cells t.row 28) := ⟨_, rfl⟩
  have b1 : Below w0.heap.size w0 w1 := by rw [hw1]; exact (Below.refl _ _).alloc (Nat.le_refl _) _
  have hx1 : w1.heap[w0.heap.size]? = some (.cells t.row 28 (0, 0)) := by rw [hw1]; exact heap_alloc_new _ _
  have hT := hT0.below b1
  have ha0 := Lib.hid fun (W : World) (hb : Below w1.heap.size w1 W) => attack_may t twoX threeP 0 _ W (hT.below hb) hL three_good rfl two_few
  have ha1 := Lib.hid fun (W : World) (hb : Below w1.heap.size w1 W) => attack_may t twoX threeP 1 _ W (hT.below hb) hL three_good rfl two_few
  have ha2 := Lib.hid fun (W : World) (hb : Below w1.heap.size w1 W) => attack_may t twoX threeP 2 _ W (hT.below hb) hL three_good rfl two_few
  have hof := Lib.hid fun (W : World) (hb : Below w1.heap.size w1 W) => mof_any t twoX threeP 0 1 _ _ 0 ⟨0, 2, 0⟩ W (hT.below hb) hL three_good rfl rfl (by decide)
  rw [at0] at ha0
  rw [at1] at ha1
  rw [at2] at ha2
  rw [of1] at hof
  have HX1 := Lib.hid hx1
  have B1 := Lib.hid (Below.refl w1.heap.size w1)
  have BB := Lib.hid (b0.trans (b1.mono b0.size))
  have HW1 := Lib.hid hw1
  clear hT0 hL b0 b1 hx1 hT hw1
  simp only [Tb.row, Int.natCast_zero, Int.natCast_one, Int.cast_ofNat_Int] at *
  go_wp2_with fail
  rw [← HW1.out]
  refine (ha0.out _ B1.out).mono ?_
  rintro e w2 ⟨rfl, b2⟩
  have B2 := Lib.hid (B1.out.trans (b2.mono B1.out.size))
  have HX2 := Lib.hid ((b2.block _ (heap_lt HX1.out)).trans HX1.out)
  clear b2
  have y0 := cell_blk (i := 0) HX2.out
  have y1 := cell_blk (i := 1) HX2.out
  have y2 := cell_blk (i := 2) HX2.out
  have y3 := cell_blk (i := 3) HX2.out
  have y4 := cell_blk (i := 4) HX2.out
  have y5 := cell_blk (i := 5) HX2.out
  have y6 := cell_blk (i := 6) HX2.out
  have y7 := cell_blk (i := 7) HX2.out
  have y8 := cell_blk (i := 8) HX2.out
  have y9 := cell_blk (i := 9) HX2.out
  simp at y0 y1 y2 y3 y4 y5 y6 y7 y8 y9
  go_wp2_with fail
  refine (ha1.out _ B2.out).mono ?_
  rintro e w3 ⟨rfl, b3⟩
  have B3 := Lib.hid (B2.out.trans (b3.mono B2.out.size))
  have HX3 := Lib.hid ((b3.block _ (heap_lt HX2.out)).trans HX2.out)
  clear b3
  clear y0 y1 y2 y3 y4 y5 y6 y7 y8 y9
  have y0 := cell_blk (i := 0) HX3.out
  have y1 := cell_blk (i := 1) HX3.out
  have y2 := cell_blk (i := 2) HX3.out
  have y3 := cell_blk (i := 3) HX3.out
  have y4 := cell_blk (i := 4) HX3.out
  have y5 := cell_blk (i := 5) HX3.out
  have y6 := cell_blk (i := 6) HX3.out
  have y7 := cell_blk (i := 7) HX3.out
  have y8 := cell_blk (i := 8) HX3.out
  have y9 := cell_blk (i := 9) HX3.out
  simp at y0 y1 y2 y3 y4 y5 y6 y7 y8 y9
  go_wp2_with fail
  refine (ha2.out _ B3.out).mono ?_
  rintro e w4 ⟨rfl, b4⟩
  have B4 := Lib.hid (B3.out.trans (b4.mono B3.out.size))
  have HX4 := Lib.hid ((b4.block _ (heap_lt HX3.out)).trans HX3.out)
  clear b4
  clear y0 y1 y2 y3 y4 y5 y6 y7 y8 y9
  have y0 := cell_blk (i := 0) HX4.out
  have y1 := cell_blk (i := 1) HX4.out
  have y2 := cell_blk (i := 2) HX4.out
  have y3 := cell_blk (i := 3) HX4.out
  have y4 := cell_blk (i := 4) HX4.out
  have y5 := cell_blk (i := 5) HX4.out
  have y6 := cell_blk (i := 6) HX4.out
  have y7 := cell_blk (i := 7) HX4.out
  have y8 := cell_blk (i := 8) HX4.out
  have y9 := cell_blk (i := 9) HX4.out
  simp at y0 y1 y2 y3 y4 y5 y6 y7 y8 y9
  go_wp2_with fail
  refine (hof.out _ B4.out).mono ?_
  rintro e w5 ⟨rfl, b5⟩
  have B5 := Lib.hid (B4.out.trans (b5.mono B4.out.size))
  have HX5 := Lib.hid ((b5.block _ (heap_lt HX4.out)).trans HX4.out)
  clear b5
  go_wp2_with fail
  go_ret
  exact ⟨rfl, BB.out.trans (B5.out.mono BB.out.size)⟩
end Go.Proofs.Ytomhlgamdmcneaa
