import Derived.Test.YtfdehhibgdeedaaQFtTable
/- The fights that the document tells of are as it tells. -/
namespace Go.Proofs.Ytfdehhibgdeedaa
open Go.RowKit Go.Lib

theorem o1 : outTwo oneX (twoF false) p0F (p1F false) 0 1 = ((0, 300), [1]) := by
  unfold outTwo
  rw [if_neg (by decide), atk0, atk1]
  decide
theorem o2 : outTwo oneX (twoF true) p0F (p1F true) 0 1 = ((300, 0), []) := by
  unfold outTwo
  rw [if_pos (by decide), atk0]
  decide
theorem two1 (lw : Bool) (t : Tb) (w : World) (hT : TabIn w t oneX (twoF lw)) (hL : LifeOk t) : Calls Try.prog 9 #[.agg t.row, .int .i64 0, .int .i64 1] w (OutEnds (outTwo oneX (twoF lw) p0F (p1F lw) 0 1) 0 w) :=
  outcome_two t oneX (twoF lw) 0 1 p0F (p1F lw) w hT hL (two_good lw) one_few rfl rfl (by decide) (by cases lw <;> decide)
theorem two2 (t : Tb) (w : World) (hT : TabIn w t oneX (twoF true)) (hL : LifeOk t) : Calls Try.prog 9 #[.agg t.row, .int .i64 0, .int .i64 (-1)] w (OutEnds ((0, 1500), []) 0 w) := by
  have h := outcome_nobody t oneX (twoF true) 0 p0F w hT hL (two_good true) one_few rfl (by decide)
  rw [atk0] at h
  exact h
theorem IntsOwn.at' {w : World} {b : Nat} {a : Option Addr} {c : Nat} {l : List Int} (h : IntsOwn w b (.slice a l.length c) l) : IntsAt w a l := fun i x hx => by
  obtain ⟨g, -, -, ⟨cw, hcw⟩, hc⟩ := h.cell.2 i x hx
  simp only [Value.slice.injEq] at hcw
  refine ⟨⟨g, 0, none⟩, hcw.1, ?_⟩
  rw [Addr.add_lit, Nat.zero_add]
  exact hc
theorem ones_any (w : World) (b b' : Nat) (a a' : Option Addr) (c c' : Nat) (h : IntsOwn w b (.slice a 1 c) [1]) (h' : IntsOwn w b' (.slice a' 1 c') [1]) : Calls Try.prog 12 #[.slice a 1 c, .slice a' 1 c'] w fun e w' => e = .returned (.bool true) ∧ Below w.heap.size w w' := by
  have h1 : IntsAt w a [1] := IntsOwn.at' (l := [1]) h
  have h2 : IntsAt w a' [1] := IntsOwn.at' (l := [1]) h'
  exact ints_any w a a' c c' [1] [1] h1 h2 (by decide) (by decide)

set_option maxHeartbeats 8000000 in
set_option maxRecDepth 100000 in
theorem flives_any (w : World) : Calls Try.prog 7 #[] w fun e w' => e = .returned (.bool true) ∧ Below w.heap.size w w' := by
  have hta := Lib.hid fun lw W => ftable_any lw W
  have ho1 := Lib.hid fun t W hT hL => two1 false t W hT hL
  have ho2 := Lib.hid fun t W hT hL => two1 true t W hT hL
  have ho3 := Lib.hid fun t W hT hL => two2 t W hT hL
  rw [o1] at ho1
  rw [o2] at ho2
  have HB0 := Lib.hid (Below.refl w.heap.size w)
  have q1 : ∀ W : World, Sem.run Try.prog (Op.equalIn 10000 24 (.agg #[.int .i64 0, .int .i64 300]) (.agg #[.int .i64 0, .int .i64 300])) W = .ok true W := fun W => by kernel_rfl
  have q2 : ∀ W : World, Sem.run Try.prog (Op.equalIn 10000 24 (.agg #[.int .i64 300, .int .i64 0]) (.agg #[.int .i64 300, .int .i64 0])) W = .ok true W := fun W => by kernel_rfl
  have q3 : ∀ W : World, Sem.run Try.prog (Op.equalIn 10000 24 (.agg #[.int .i64 0, .int .i64 1500]) (.agg #[.int .i64 0, .int .i64 1500])) W = .ok true W := fun W => by kernel_rfl
  go_enter Try.func7, Try.ntmps7
  go_wp2_with fail
  (with_reducible refine (hta.out false _).mono ?_)
  rintro e wa1 ⟨⟨t1, rfl, hT1, hL1⟩, ba1⟩
  have HA1 := Lib.hid (HB0.out.trans (ba1.mono HB0.out.size))
  have HC1 := Lib.hid (ho1.out t1 wa1 hT1 hL1)
  clear hT1 hL1 ba1
  go_wp2_with fail
  (with_reducible refine HC1.out.mono ?_)
  rintro e wb1 ⟨⟨v1, rfl, hv1⟩, bb1⟩
  obtain ⟨⟨a1, c1, rfl⟩, -⟩ := hv1.cell
  have HB10 := Lib.hid (HA1.out.trans (bb1.mono HA1.out.size))
  obtain ⟨w1, hw1⟩ : ∃ w1, w1 = wb1.alloc (.cells #[.int .i64 0, .int .i64 300] 24) := ⟨_, rfl⟩
  have ha1 : Below wb1.heap.size wb1 w1 := by rw [hw1]; exact (Below.refl _ _).alloc (Nat.le_refl _) _
  have HE1 : Hid (w1.heap[wb1.heap.size]? = some (.cells #[.int .i64 0, .int .i64 300] 24 (0, 0))) := Lib.hid (by rw [hw1]; exact heap_alloc_new _ _)
  have HV1 := Lib.hid (IntsOwn.below hv1 ha1)
  have HB1 := Lib.hid (HB10.out.trans (ha1.mono HB10.out.size))
  have HW1 := Lib.hid hw1
  clear hv1 bb1 ha1 hw1 HA1 HB10 HC1
  go_wp2_with fail
  rw [← HW1.out]
  (with_reducible refine (hta.out true _).mono ?_)
  rintro e wa2 ⟨⟨t2, rfl, hT2, hL2⟩, ba2⟩
  have HA2 := Lib.hid (HB1.out.trans (ba2.mono HB1.out.size))
  have HE1 := Lib.hid ((ba2.block _ (heap_lt HE1.out)).trans HE1.out)
  have HV1 := Lib.hid (HV1.out.below ba2)
  have HC2 := Lib.hid (ho2.out t2 wa2 hT2 hL2)
  clear hT2 hL2 ba2
  go_wp2_with fail
  (with_reducible refine HC2.out.mono ?_)
  rintro e wb2 ⟨⟨v2, rfl, hv2⟩, bb2⟩
  obtain ⟨⟨a2, c2, rfl⟩, -⟩ := hv2.cell
  have HE1 := Lib.hid ((bb2.block _ (heap_lt HE1.out)).trans HE1.out)
  have HV1 := Lib.hid (HV1.out.below bb2)
  have HB20 := Lib.hid (HA2.out.trans (bb2.mono HA2.out.size))
  obtain ⟨w2, hw2⟩ : ∃ w2, w2 = wb2.alloc (.cells #[.int .i64 300, .int .i64 0] 24) := ⟨_, rfl⟩
  have ha2 : Below wb2.heap.size wb2 w2 := by rw [hw2]; exact (Below.refl _ _).alloc (Nat.le_refl _) _
  have HE2 : Hid (w2.heap[wb2.heap.size]? = some (.cells #[.int .i64 300, .int .i64 0] 24 (0, 0))) := Lib.hid (by rw [hw2]; exact heap_alloc_new _ _)
  have HV2 := Lib.hid (IntsOwn.below hv2 ha2)
  have HE1 := Lib.hid ((ha2.block _ (heap_lt HE1.out)).trans HE1.out)
  have HV1 := Lib.hid (HV1.out.below ha2)
  have HB2 := Lib.hid (HB20.out.trans (ha2.mono HB20.out.size))
  have HW2 := Lib.hid hw2
  clear hv2 bb2 ha2 hw2 HA2 HB20 HC2
  go_wp2_with fail
  rw [← HW2.out]
  (with_reducible refine (hta.out true _).mono ?_)
  rintro e wa3 ⟨⟨t3, rfl, hT3, hL3⟩, ba3⟩
  have HA3 := Lib.hid (HB2.out.trans (ba3.mono HB2.out.size))
  have HE1 := Lib.hid ((ba3.block _ (heap_lt HE1.out)).trans HE1.out)
  have HV1 := Lib.hid (HV1.out.below ba3)
  have HE2 := Lib.hid ((ba3.block _ (heap_lt HE2.out)).trans HE2.out)
  have HV2 := Lib.hid (HV2.out.below ba3)
  have HC3 := Lib.hid (ho3.out t3 wa3 hT3 hL3)
  clear hT3 hL3 ba3
  go_wp2_with fail
  (with_reducible refine HC3.out.mono ?_)
  rintro e wb3 ⟨⟨v3, rfl, hv3⟩, bb3⟩
  obtain ⟨⟨a3, c3, rfl⟩, -⟩ := hv3.cell
  have HE1 := Lib.hid ((bb3.block _ (heap_lt HE1.out)).trans HE1.out)
  have HV1 := Lib.hid (HV1.out.below bb3)
  have HE2 := Lib.hid ((bb3.block _ (heap_lt HE2.out)).trans HE2.out)
  have HV2 := Lib.hid (HV2.out.below bb3)
  have HEb1 := HE1
  have HEb2 := HE2
  have HB30 := Lib.hid (HA3.out.trans (bb3.mono HA3.out.size))
  obtain ⟨w3, hw3⟩ : ∃ w3, w3 = wb3.alloc (.cells #[.int .i64 0, .int .i64 1500] 24) := ⟨_, rfl⟩
  have ha3 : Below wb3.heap.size wb3 w3 := by rw [hw3]; exact (Below.refl _ _).alloc (Nat.le_refl _) _
  have HE3 : Hid (w3.heap[wb3.heap.size]? = some (.cells #[.int .i64 0, .int .i64 1500] 24 (0, 0))) := Lib.hid (by rw [hw3]; exact heap_alloc_new _ _)
  have HV3 := Lib.hid (IntsOwn.below hv3 ha3)
  have HE1 := Lib.hid ((ha3.block _ (heap_lt HE1.out)).trans HE1.out)
  have HV1 := Lib.hid (HV1.out.below ha3)
  have HE2 := Lib.hid ((ha3.block _ (heap_lt HE2.out)).trans HE2.out)
  have HV2 := Lib.hid (HV2.out.below ha3)
  have HB3 := Lib.hid (HB30.out.trans (ha3.mono HB30.out.size))
  have HW3 := Lib.hid hw3
  clear hv3 bb3 ha3 hw3 HA3 HB30 HC3
  have z10 := cell_blk (i := 0) HEb1.out
  have z11 := cell_blk (i := 1) HEb1.out
  have z20 := cell_blk (i := 0) HEb2.out
  have z21 := cell_blk (i := 1) HEb2.out
  simp at z10 z11 z20 z21
  have lt1 := heap_lt HEb1.out
  have lt2 := heap_lt HEb2.out
  go_wp2_with fail
  rw [← HW3.out]
  have hones := Lib.hid (ones_any (w3.alloc (.cells #[.int .i64 1] 3)) wa1.heap.size 0 a1 (some ⟨w3.heap.size, 0, none⟩) c1 1 (HV1.out.below ((Below.refl _ _).alloc (Nat.le_refl _) _)) (IntsOwn.one (Nat.zero_le _) (heap_alloc_new _ _)))
  have HS3 : Hid (w3.heap.size = wb3.heap.size + 1) := Lib.hid (by rw [HW3.out]; simp)
  rw [HS3.out] at hones
  refine hones.out.mono ?_
  rintro e w4 ⟨rfl, b4⟩
  have b34 : Below w3.heap.size w3 w4 := ((Below.refl _ _).alloc (Nat.le_refl _) _).trans (b4.mono (by simp))
  have HE22 := Lib.hid ((b34.block _ (heap_lt HE2.out)).trans HE2.out)
  have HE33 := Lib.hid ((b34.block _ (heap_lt HE3.out)).trans HE3.out)
  have HB4 := Lib.hid (HB3.out.trans (b34.mono HB3.out.size))
  clear z10 z11 z20 z21 lt1 lt2 b4 b34
  have z20 := cell_blk (i := 0) HE22.out
  have z21 := cell_blk (i := 1) HE22.out
  have z30 := cell_blk (i := 0) HE33.out
  have z31 := cell_blk (i := 1) HE33.out
  simp at z20 z21 z30 z31
  have lt2 := heap_lt HE22.out
  have lt3 := heap_lt HE33.out
  go_wp2_with fail
  go_ret
  exact ⟨rfl, HB4.out⟩
end Go.Proofs.Ytfdehhibgdeedaa
