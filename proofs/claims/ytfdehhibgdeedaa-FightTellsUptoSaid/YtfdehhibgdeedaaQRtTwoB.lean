import Derived.Test.YtfdehhibgdeedaaQRtOut
/- joustref15.Outcome: two units against each other. -/
namespace Go.Proofs.Ytfdehhibgdeedaa
open Go.RowKit Go.Lib
set_option maxHeartbeats 16000000 in
set_option maxRecDepth 100000 in
theorem rout_high0_lt (t : Tb) (a d : Nat) (A B D : Int) (p q : Pc) (w : World) (hm : ∀ W, Below w.heap.size w W → Calls Try.prog 17 #[.agg t.row] W fun e w' => e = .returned (.bool true) ∧ Below W.heap.size W w') (hpa : a < t.np ∧ ∃ g o, t.qp = some ⟨g, o, none⟩ ∧ g < w.heap.size ∧ ∀ (j : Nat) (u : Value), (pcV p)[j]? = some u → w.cell? ⟨g, o + a * 14 + j, none⟩ = some u) (hat : attB p = true) (h3 : ¬ (d : Int) < -1) (h4 : ¬ (d : Int) ≥ (t.np : Int)) (hA : 0 ≤ A ∧ A ≤ 99999) (hf : ∀ W, Below w.heap.size w W → Calls Try.prog 16 #[.agg t.row, .int .i64 a] W fun e w' => e = .returned (.int .i64 A) ∧ Below W.heap.size W w') (hpd : d < t.np ∧ ∃ g o, t.qp = some ⟨g, o, none⟩ ∧ g < w.heap.size ∧ ∀ (j : Nat) (u : Value), (pcV q)[j]? = some u → w.cell? ⟨g, o + d * 14 + j, none⟩ = some u) (hz : q.zn = 2) (hh : p.hs = 0) (hk : q.hs = 1) (hlw : q.lw = false) (hB : 0 ≤ B ∧ B ≤ 99999) (hD : D = B - A) (hc : A < B) (hfd : ∀ W, Below w.heap.size w W → Calls Try.prog 16 #[.agg t.row, .int .i64 d] W fun e w' => e = .returned (.int .i64 B) ∧ Below W.heap.size W w') :
    Calls Try.prog 10 #[.agg t.row, .int .i64 a, .int .i64 d] w (OutEnds ((((D, 0), [(a : Int)]) : FO)) 0 w) := by
  have HM := Lib.hid hm
  clear hm
  obtain ⟨hal, g, o, hq, hg, hc⟩ := hpa
  have HC := Lib.hid hc
  have hrd := Lib.hid fun W => rready_any p W
  have i0 : (0 : Int) ≤ (a : Int) := by omega
  have i1 : (a : Int) < (t.np : Int) := by omega
  have i2 : ¬ (a : Int) < 0 := by omega
  have i3 : ¬ (a : Int) ≥ (t.np : Int) := by omega
  clear hc
  have hf := Lib.hid hf
  rw [hat] at hrd
  obtain ⟨hdl, g', o', hq', hg', hd⟩ := hpd
  rw [hq, Option.some.injEq, Addr.mk.injEq] at hq'
  obtain ⟨rfl, rfl, -⟩ := hq'
  have HD := Lib.hid hd
  have j0 : (0 : Int) ≤ (d : Int) := by omega
  have j1 : (d : Int) < (t.np : Int) := by omega
  have dn : ((d : Int) == -1) = false := by first | (simp; done) | (simp; omega)
  have uw0 : IntKind.u8.wrap 0 = 0 := by kernel_rfl
  have uw1 : IntKind.u8.wrap 1 = 1 := by kernel_rfl
  clear hd
  have t1 : ((q.zn : Int) != 2) = false := by simp [hz]
  have t2 : ((q.hs : Int) == 0) = false := by rw [hk]; decide
  have m1 : max (IntKind.i64.wrap (B - A)) 0 = D := by rw [IntWalk.i64_in _ (by omega)]; omega
  have m1w : max (wrap64 (B - A)) 0 = D := by unfold wrap64; omega
  have m2 : max (IntKind.i64.wrap (A - B)) 0 = 0 := by rw [IntWalk.i64_in _ (by omega)]; omega
  have m2w : max (wrap64 (A - B)) 0 = 0 := by unfold wrap64; omega
  have hfd := Lib.hid hfd
  have cg : ¬ A > B := by omega
  have cl : A < B := hc
  have HP := Lib.hid hh
  have HK := Lib.hid hk
  have HLW := Lib.hid hlw
  clear hz hh hk hlw hc hD hB hA
  obtain ⟨w0, hw0⟩ : ∃ w0, w0 = ((w.alloc (.cells t.row 28)).alloc (.cells #[.int .i64 0, .int .i64 0] 24)).alloc (.cells #[.int .i64 0, .int .i64 0] 24) := ⟨_, rfl⟩
  have hb0 : Below w.heap.size w w0 := by rw [hw0]; exact below_al (below_al (below_al (Below.refl _ _)))
  have hx0 : w0.heap[w.heap.size]? = some (.cells t.row 28 (0, 0)) := by rw [hw0]; exact heap_older (heap_older (heap_alloc_new _ _))
  have hr0 : w0.heap[w.heap.size + 1]? = some (.cells #[.int .i64 0, .int .i64 0] 24 (0, 0)) := by rw [hw0]; exact heap_older (heap_newer _ _ _ (by simp))
  have hh0 : w0.heap[w.heap.size + 1 + 1]? = some (.cells #[.int .i64 0, .int .i64 0] 24 (0, 0)) := by rw [hw0]; exact heap_newer _ _ _ (by simp)
  have HB0 := Lib.hid hb0
  have HX0 := Lib.hid hx0
  have HR0 := Lib.hid hr0
  have HH0 := Lib.hid hh0
  have HW0 := Lib.hid hw0
  clear hb0 hx0 hr0 hh0 hw0
  simp only [Tb.row] at *
  rw [hq] at HM hf hfd HX0 HW0 ⊢
  clear hq
  go_enter Try.func10, Try.ntmps10
  go_wp2_with fail
  rw [← HW0.out]
  (with_reducible refine (HM.out _ HB0.out).mono ?_)
  rintro e w1 ⟨rfl, b1⟩
  have HB1 := Lib.hid (HB0.out.trans (b1.mono HB0.out.size))
  have HX1 := Lib.hid ((b1.block _ (heap_lt HX0.out)).trans HX0.out)
  have HR1 := Lib.hid ((b1.block _ (heap_lt HR0.out)).trans HR0.out)
  have HH1 := Lib.hid ((b1.block _ (heap_lt HH0.out)).trans HH0.out)
  clear b1
  have y1 := cell_blk (i := 1) HX1.out
  simp at y1
  have hlx1 := heap_lt HX1.out
  have c0 : w1.cell? ⟨g, o + a * 14, none⟩ = some (.int .i64 p.df) := cell_later HB1.out (HC.out 0 _ rfl)
  have c1 : w1.cell? ⟨g, o + a * 14 + 1, none⟩ = some (.int .i64 p.ak) := cell_later HB1.out (HC.out 1 _ rfl)
  have c2 : w1.cell? ⟨g, o + a * 14 + 2, none⟩ = some (.int .i64 p.gd) := cell_later HB1.out (HC.out 2 _ rfl)
  have c3 : w1.cell? ⟨g, o + a * 14 + 3, none⟩ = some (.int .u8 p.ow) := cell_later HB1.out (HC.out 3 _ rfl)
  have c4 : w1.cell? ⟨g, o + a * 14 + 4, none⟩ = some (.int .u8 p.hs) := cell_later HB1.out (HC.out 4 _ rfl)
  have c5 : w1.cell? ⟨g, o + a * 14 + 5, none⟩ = some (.int .u8 p.zn) := cell_later HB1.out (HC.out 5 _ rfl)
  have c6 : w1.cell? ⟨g, o + a * 14 + 6, none⟩ = some (.int .i64 p.pl) := cell_later HB1.out (HC.out 6 _ rfl)
  have c7 : w1.cell? ⟨g, o + a * 14 + 7, none⟩ = some (.bool p.up) := cell_later HB1.out (HC.out 7 _ rfl)
  have c8 : w1.cell? ⟨g, o + a * 14 + 8, none⟩ = some (.bool p.lw) := cell_later HB1.out (HC.out 8 _ rfl)
  have c9 : w1.cell? ⟨g, o + a * 14 + 9, none⟩ = some (.int .i64 p.sc) := cell_later HB1.out (HC.out 9 _ rfl)
  have c10 : w1.cell? ⟨g, o + a * 14 + 10, none⟩ = some (.int .u8 p.us) := cell_later HB1.out (HC.out 10 _ rfl)
  have c11 : w1.cell? ⟨g, o + a * 14 + 11, none⟩ = some (.bool p.sk) := cell_later HB1.out (HC.out 11 _ rfl)
  have c12 : w1.cell? ⟨g, o + a * 14 + 12, none⟩ = some (.bool p.tu) := cell_later HB1.out (HC.out 12 _ rfl)
  have c13 : w1.cell? ⟨g, o + a * 14 + 13, none⟩ = some (.int .i64 p.bo) := cell_later HB1.out (HC.out 13 _ rfl)
  simp only [pcV] at hrd
  go_wp2_with fail
  (with_reducible refine (hrd.out _).mono ?_)
  rintro e w2 ⟨rfl, b2⟩
  have HB2 := Lib.hid (HB1.out.trans (b2.mono HB1.out.size))
  have HX2 := Lib.hid ((b2.block _ (heap_lt HX1.out)).trans HX1.out)
  have HR2 := Lib.hid ((b2.block _ (heap_lt HR1.out)).trans HR1.out)
  have HH2 := Lib.hid ((b2.block _ (heap_lt HH1.out)).trans HH1.out)
  clear b2 y1 c0 c1 c2 c3 c4 c5 c6 c7 c8 c9 c10 c11 c12 c13 hlx1
  have y0 := cell_blk (i := 0) HX2.out
  have y1 := cell_blk (i := 1) HX2.out
  have y2 := cell_blk (i := 2) HX2.out
  have y3 := cell_blk (i := 3) HX2.out
  have y4 := cell_blk (i := 4) HX2.out
  have y5 := cell_blk (i := 5) HX2.out
  have y6 := cell_blk (i := 6) HX2.out
  have y7 := cell_blk (i := 7) HX2.out
  have y8 := cell_blk (i := 8) HX2.out
  have y9 := cell_blk (i := 9) HX2.out
  simp at y0 y1 y2 y3 y4 y5 y6 y7 y8 y9
  have hlx2 := heap_lt HX2.out
  have c4 : w2.cell? ⟨g, o + a * 14 + 4, none⟩ = some (.int .u8 p.hs) := cell_later HB2.out (HC.out 4 _ rfl)
  rw [HP.out] at c4
  go_wp2_with fail
  (with_reducible refine (hf.out _ HB2.out).mono ?_)
  rintro e w3 ⟨rfl, b3⟩
  have HB3 := Lib.hid (HB2.out.trans (b3.mono HB2.out.size))
  have HX3 := Lib.hid ((b3.block _ (heap_lt HX2.out)).trans HX2.out)
  have HR3 := Lib.hid ((b3.block _ (heap_lt HR2.out)).trans HR2.out)
  have HH3 := Lib.hid ((b3.block _ (heap_lt HH2.out)).trans HH2.out)
  clear b3 y0 y1 y2 y3 y4 y5 y6 y7 y8 y9 c4 hlx2
  have y0 := cell_blk (i := 0) HX3.out
  have y1 := cell_blk (i := 1) HX3.out
  have y2 := cell_blk (i := 2) HX3.out
  have y3 := cell_blk (i := 3) HX3.out
  have y4 := cell_blk (i := 4) HX3.out
  have y5 := cell_blk (i := 5) HX3.out
  have y6 := cell_blk (i := 6) HX3.out
  have y7 := cell_blk (i := 7) HX3.out
  have y8 := cell_blk (i := 8) HX3.out
  have y9 := cell_blk (i := 9) HX3.out
  simp at y0 y1 y2 y3 y4 y5 y6 y7 y8 y9
  have hlx3 := heap_lt HX3.out
  have hg3 : g < w3.heap.size := Nat.lt_of_lt_of_le hg HB3.out.size
  have e0 : w3.cell? ⟨g, o + d * 14, none⟩ = some (.int .i64 q.df) := cell_later HB3.out (HD.out 0 _ rfl)
  have e1 : w3.cell? ⟨g, o + d * 14 + 1, none⟩ = some (.int .i64 q.ak) := cell_later HB3.out (HD.out 1 _ rfl)
  have e2 : w3.cell? ⟨g, o + d * 14 + 2, none⟩ = some (.int .i64 q.gd) := cell_later HB3.out (HD.out 2 _ rfl)
  have e3 : w3.cell? ⟨g, o + d * 14 + 3, none⟩ = some (.int .u8 q.ow) := cell_later HB3.out (HD.out 3 _ rfl)
  have e4 : w3.cell? ⟨g, o + d * 14 + 4, none⟩ = some (.int .u8 q.hs) := cell_later HB3.out (HD.out 4 _ rfl)
  have e5 : w3.cell? ⟨g, o + d * 14 + 5, none⟩ = some (.int .u8 q.zn) := cell_later HB3.out (HD.out 5 _ rfl)
  have e6 : w3.cell? ⟨g, o + d * 14 + 6, none⟩ = some (.int .i64 q.pl) := cell_later HB3.out (HD.out 6 _ rfl)
  have e7 : w3.cell? ⟨g, o + d * 14 + 7, none⟩ = some (.bool q.up) := cell_later HB3.out (HD.out 7 _ rfl)
  have e8 : w3.cell? ⟨g, o + d * 14 + 8, none⟩ = some (.bool q.lw) := cell_later HB3.out (HD.out 8 _ rfl)
  have e9 : w3.cell? ⟨g, o + d * 14 + 9, none⟩ = some (.int .i64 q.sc) := cell_later HB3.out (HD.out 9 _ rfl)
  have e10 : w3.cell? ⟨g, o + d * 14 + 10, none⟩ = some (.int .u8 q.us) := cell_later HB3.out (HD.out 10 _ rfl)
  have e11 : w3.cell? ⟨g, o + d * 14 + 11, none⟩ = some (.bool q.sk) := cell_later HB3.out (HD.out 11 _ rfl)
  have e12 : w3.cell? ⟨g, o + d * 14 + 12, none⟩ = some (.bool q.tu) := cell_later HB3.out (HD.out 12 _ rfl)
  have e13 : w3.cell? ⟨g, o + d * 14 + 13, none⟩ = some (.int .i64 q.bo) := cell_later HB3.out (HD.out 13 _ rfl)
  rw [HLW.out] at e8
  obtain ⟨w4, hw4⟩ : ∃ w4, w4 = w3.alloc (.cells (pcV q).toArray 45) := ⟨_, rfl⟩
  have HR4 : Hid (w4.heap[w.heap.size + 1]? = some _) := Lib.hid (by rw [hw4]; exact heap_older HR3.out)
  have HH4 : Hid (w4.heap[w.heap.size + 1 + 1]? = some _) := Lib.hid (by rw [hw4]; exact heap_older HH3.out)
  have HB4 : Hid (Below w.heap.size w w4) := Lib.hid (by rw [hw4]; exact below_al HB3.out)
  have hls : w.heap.size + 1 + 1 < w3.heap.size := heap_lt HH3.out
  have HW4 := Lib.hid hw4
  clear hw4
  simp only [pcV] at HW4
  rw [HLW.out] at HW4
  go_wp2_with fail
  rw [← HW4.out]
  clear y0 y1 y2 y3 y4 y5 y6 y7 y8 y9 e0 e1 e2 e3 e4 e5 e6 e7 e8 e9 e10 e11 e12 e13 hlx3
  (with_reducible refine (hfd.out _ HB4.out).mono ?_)
  rintro e w5 ⟨rfl, b5⟩
  have HB5 := Lib.hid (HB4.out.trans (b5.mono HB4.out.size))
  have HR5 := Lib.hid ((b5.block _ (heap_lt HR4.out)).trans HR4.out)
  have HH5 := Lib.hid ((b5.block _ (heap_lt HH4.out)).trans HH4.out)
  have hls5 : w.heap.size + 1 + 1 < w5.heap.size := heap_lt HH5.out
  clear b5
  have hlh5 := heap_lt HH5.out
  have z0 : w5.cell? ⟨w.heap.size + 1 + 1, 0, none⟩ = some (.int .i64 0) := cell_blk HH5.out
  have z1 : w5.cell? ⟨w.heap.size + 1 + 1, 1, none⟩ = some (.int .i64 0) := cell_blk HH5.out
  have hlr5 := heap_lt HR5.out
  have r0 : w5.cell? ⟨w.heap.size + 1, 0, none⟩ = some (.int .i64 0) := cell_blk HR5.out
  have r1 : w5.cell? ⟨w.heap.size + 1, 1, none⟩ = some (.int .i64 0) := cell_blk HR5.out
  have g0 := free_blk (i := 0) HH5.out
  have g1 := free_blk (i := 1) HH5.out
  have f0 := free_blk (i := 0) HR5.out
  have f1 := free_blk (i := 1) HR5.out
  go_wp2_with fail
  refine bodyPost_ret (results_cell_slot2 rfl _ _ _ (w.heap.size + 1) _ _ _ _ _ rfl (by (repeat (with_reducible refine heap_older ?_)); refine two_set1 (a0 := .int .i64 (D)) (a1 := .int .i64 0) (t := 24) _ ?_; refine two_set0 (a0 := .int .i64 0) (a1 := .int .i64 0) (t := 24) _ ?_; (repeat (first | (with_reducible exact HR5.out) | (with_reducible refine heap_older ?_) | (refine (heap_set_far (by show _ ≠ _; dsimp only; omega) _).trans ?_)))) Try.underlying24 (by kernel_rfl)) rfl ?_
  exact ⟨⟨_, rfl, (IntsOwn.one (by have := HB5.out.size; first | omega | (simp [World.setCell]; omega)) (by repeat (first | (with_reducible exact heap_alloc_new _ _) | (exact heap_newer _ _ _ (by simp [World.setCell])) | (with_reducible refine heap_older ?_) | (refine (heap_set_far (by show _ ≠ _; dsimp only; first | omega | (simp [World.setCell]; omega)) _).trans ?_))))⟩, (by repeat (first | (with_reducible exact HB5.out) | (with_reducible refine below_al ?_) | (refine Below.setCell ?_ (by show _ ≤ _; dsimp only; omega) _)))⟩

set_option maxHeartbeats 16000000 in
set_option maxRecDepth 100000 in
theorem rout_high0_gt (t : Tb) (a d : Nat) (A B D : Int) (p q : Pc) (w : World) (hm : ∀ W, Below w.heap.size w W → Calls Try.prog 17 #[.agg t.row] W fun e w' => e = .returned (.bool true) ∧ Below W.heap.size W w') (hpa : a < t.np ∧ ∃ g o, t.qp = some ⟨g, o, none⟩ ∧ g < w.heap.size ∧ ∀ (j : Nat) (u : Value), (pcV p)[j]? = some u → w.cell? ⟨g, o + a * 14 + j, none⟩ = some u) (hat : attB p = true) (h3 : ¬ (d : Int) < -1) (h4 : ¬ (d : Int) ≥ (t.np : Int)) (hA : 0 ≤ A ∧ A ≤ 99999) (hf : ∀ W, Below w.heap.size w W → Calls Try.prog 16 #[.agg t.row, .int .i64 a] W fun e w' => e = .returned (.int .i64 A) ∧ Below W.heap.size W w') (hpd : d < t.np ∧ ∃ g o, t.qp = some ⟨g, o, none⟩ ∧ g < w.heap.size ∧ ∀ (j : Nat) (u : Value), (pcV q)[j]? = some u → w.cell? ⟨g, o + d * 14 + j, none⟩ = some u) (hz : q.zn = 2) (hh : p.hs = 0) (hk : q.hs = 1) (hlw : q.lw = false) (hB : 0 ≤ B ∧ B ≤ 99999) (hD : D = A - B) (hc : A > B) (hfd : ∀ W, Below w.heap.size w W → Calls Try.prog 16 #[.agg t.row, .int .i64 d] W fun e w' => e = .returned (.int .i64 B) ∧ Below W.heap.size W w') :
    Calls Try.prog 10 #[.agg t.row, .int .i64 a, .int .i64 d] w (OutEnds ((((0, D), [(d : Int)]) : FO)) 0 w) := by
  have HM := Lib.hid hm
  clear hm
  obtain ⟨hal, g, o, hq, hg, hc⟩ := hpa
  have HC := Lib.hid hc
  have hrd := Lib.hid fun W => rready_any p W
  have i0 : (0 : Int) ≤ (a : Int) := by omega
  have i1 : (a : Int) < (t.np : Int) := by omega
  have i2 : ¬ (a : Int) < 0 := by omega
  have i3 : ¬ (a : Int) ≥ (t.np : Int) := by omega
  clear hc
  have hf := Lib.hid hf
  rw [hat] at hrd
  obtain ⟨hdl, g', o', hq', hg', hd⟩ := hpd
  rw [hq, Option.some.injEq, Addr.mk.injEq] at hq'
  obtain ⟨rfl, rfl, -⟩ := hq'
  have HD := Lib.hid hd
  have j0 : (0 : Int) ≤ (d : Int) := by omega
  have j1 : (d : Int) < (t.np : Int) := by omega
  have dn : ((d : Int) == -1) = false := by first | (simp; done) | (simp; omega)
  have uw0 : IntKind.u8.wrap 0 = 0 := by kernel_rfl
  have uw1 : IntKind.u8.wrap 1 = 1 := by kernel_rfl
  clear hd
  have t1 : ((q.zn : Int) != 2) = false := by simp [hz]
  have t2 : ((q.hs : Int) == 0) = false := by rw [hk]; decide
  have m1 : max (IntKind.i64.wrap (B - A)) 0 = 0 := by rw [IntWalk.i64_in _ (by omega)]; omega
  have m1w : max (wrap64 (B - A)) 0 = 0 := by unfold wrap64; omega
  have m2 : max (IntKind.i64.wrap (A - B)) 0 = D := by rw [IntWalk.i64_in _ (by omega)]; omega
  have m2w : max (wrap64 (A - B)) 0 = D := by unfold wrap64; omega
  have hfd := Lib.hid hfd
  have cg : A > B := hc
  have HP := Lib.hid hh
  have HK := Lib.hid hk
  have HLW := Lib.hid hlw
  clear hz hh hk hlw hc hD hB hA
  obtain ⟨w0, hw0⟩ : ∃ w0, w0 = ((w.alloc (.cells t.row 28)).alloc (.cells #[.int .i64 0, .int .i64 0] 24)).alloc (.cells #[.int .i64 0, .int .i64 0] 24) := ⟨_, rfl⟩
  have hb0 : Below w.heap.size w w0 := by rw [hw0]; exact below_al (below_al (below_al (Below.refl _ _)))
  have hx0 : w0.heap[w.heap.size]? = some (.cells t.row 28 (0, 0)) := by rw [hw0]; exact heap_older (heap_older (heap_alloc_new _ _))
  have hr0 : w0.heap[w.heap.size + 1]? = some (.cells #[.int .i64 0, .int .i64 0] 24 (0, 0)) := by rw [hw0]; exact heap_older (heap_newer _ _ _ (by simp))
  have hh0 : w0.heap[w.heap.size + 1 + 1]? = some (.cells #[.int .i64 0, .int .i64 0] 24 (0, 0)) := by rw [hw0]; exact heap_newer _ _ _ (by simp)
  have HB0 := Lib.hid hb0
  have HX0 := Lib.hid hx0
  have HR0 := Lib.hid hr0
  have HH0 := Lib.hid hh0
  have HW0 := Lib.hid hw0
  clear hb0 hx0 hr0 hh0 hw0
  simp only [Tb.row] at *
  rw [hq] at HM hf hfd HX0 HW0 ⊢
  clear hq
  go_enter Try.func10, Try.ntmps10
  go_wp2_with fail
  rw [← HW0.out]
  (with_reducible refine (HM.out _ HB0.out).mono ?_)
  rintro e w1 ⟨rfl, b1⟩
  have HB1 := Lib.hid (HB0.out.trans (b1.mono HB0.out.size))
  have HX1 := Lib.hid ((b1.block _ (heap_lt HX0.out)).trans HX0.out)
  have HR1 := Lib.hid ((b1.block _ (heap_lt HR0.out)).trans HR0.out)
  have HH1 := Lib.hid ((b1.block _ (heap_lt HH0.out)).trans HH0.out)
  clear b1
  have y1 := cell_blk (i := 1) HX1.out
  simp at y1
  have hlx1 := heap_lt HX1.out
  have c0 : w1.cell? ⟨g, o + a * 14, none⟩ = some (.int .i64 p.df) := cell_later HB1.out (HC.out 0 _ rfl)
  have c1 : w1.cell? ⟨g, o + a * 14 + 1, none⟩ = some (.int .i64 p.ak) := cell_later HB1.out (HC.out 1 _ rfl)
  have c2 : w1.cell? ⟨g, o + a * 14 + 2, none⟩ = some (.int .i64 p.gd) := cell_later HB1.out (HC.out 2 _ rfl)
  have c3 : w1.cell? ⟨g, o + a * 14 + 3, none⟩ = some (.int .u8 p.ow) := cell_later HB1.out (HC.out 3 _ rfl)
  have c4 : w1.cell? ⟨g, o + a * 14 + 4, none⟩ = some (.int .u8 p.hs) := cell_later HB1.out (HC.out 4 _ rfl)
  have c5 : w1.cell? ⟨g, o + a * 14 + 5, none⟩ = some (.int .u8 p.zn) := cell_later HB1.out (HC.out 5 _ rfl)
  have c6 : w1.cell? ⟨g, o + a * 14 + 6, none⟩ = some (.int .i64 p.pl) := cell_later HB1.out (HC.out 6 _ rfl)
  have c7 : w1.cell? ⟨g, o + a * 14 + 7, none⟩ = some (.bool p.up) := cell_later HB1.out (HC.out 7 _ rfl)
  have c8 : w1.cell? ⟨g, o + a * 14 + 8, none⟩ = some (.bool p.lw) := cell_later HB1.out (HC.out 8 _ rfl)
  have c9 : w1.cell? ⟨g, o + a * 14 + 9, none⟩ = some (.int .i64 p.sc) := cell_later HB1.out (HC.out 9 _ rfl)
  have c10 : w1.cell? ⟨g, o + a * 14 + 10, none⟩ = some (.int .u8 p.us) := cell_later HB1.out (HC.out 10 _ rfl)
  have c11 : w1.cell? ⟨g, o + a * 14 + 11, none⟩ = some (.bool p.sk) := cell_later HB1.out (HC.out 11 _ rfl)
  have c12 : w1.cell? ⟨g, o + a * 14 + 12, none⟩ = some (.bool p.tu) := cell_later HB1.out (HC.out 12 _ rfl)
  have c13 : w1.cell? ⟨g, o + a * 14 + 13, none⟩ = some (.int .i64 p.bo) := cell_later HB1.out (HC.out 13 _ rfl)
  simp only [pcV] at hrd
  go_wp2_with fail
  (with_reducible refine (hrd.out _).mono ?_)
  rintro e w2 ⟨rfl, b2⟩
  have HB2 := Lib.hid (HB1.out.trans (b2.mono HB1.out.size))
  have HX2 := Lib.hid ((b2.block _ (heap_lt HX1.out)).trans HX1.out)
  have HR2 := Lib.hid ((b2.block _ (heap_lt HR1.out)).trans HR1.out)
  have HH2 := Lib.hid ((b2.block _ (heap_lt HH1.out)).trans HH1.out)
  clear b2 y1 c0 c1 c2 c3 c4 c5 c6 c7 c8 c9 c10 c11 c12 c13 hlx1
  have y0 := cell_blk (i := 0) HX2.out
  have y1 := cell_blk (i := 1) HX2.out
  have y2 := cell_blk (i := 2) HX2.out
  have y3 := cell_blk (i := 3) HX2.out
  have y4 := cell_blk (i := 4) HX2.out
  have y5 := cell_blk (i := 5) HX2.out
  have y6 := cell_blk (i := 6) HX2.out
  have y7 := cell_blk (i := 7) HX2.out
  have y8 := cell_blk (i := 8) HX2.out
  have y9 := cell_blk (i := 9) HX2.out
  simp at y0 y1 y2 y3 y4 y5 y6 y7 y8 y9
  have hlx2 := heap_lt HX2.out
  have c4 : w2.cell? ⟨g, o + a * 14 + 4, none⟩ = some (.int .u8 p.hs) := cell_later HB2.out (HC.out 4 _ rfl)
  rw [HP.out] at c4
  go_wp2_with fail
  (with_reducible refine (hf.out _ HB2.out).mono ?_)
  rintro e w3 ⟨rfl, b3⟩
  have HB3 := Lib.hid (HB2.out.trans (b3.mono HB2.out.size))
  have HX3 := Lib.hid ((b3.block _ (heap_lt HX2.out)).trans HX2.out)
  have HR3 := Lib.hid ((b3.block _ (heap_lt HR2.out)).trans HR2.out)
  have HH3 := Lib.hid ((b3.block _ (heap_lt HH2.out)).trans HH2.out)
  clear b3 y0 y1 y2 y3 y4 y5 y6 y7 y8 y9 c4 hlx2
  have y0 := cell_blk (i := 0) HX3.out
  have y1 := cell_blk (i := 1) HX3.out
  have y2 := cell_blk (i := 2) HX3.out
  have y3 := cell_blk (i := 3) HX3.out
  have y4 := cell_blk (i := 4) HX3.out
  have y5 := cell_blk (i := 5) HX3.out
  have y6 := cell_blk (i := 6) HX3.out
  have y7 := cell_blk (i := 7) HX3.out
  have y8 := cell_blk (i := 8) HX3.out
  have y9 := cell_blk (i := 9) HX3.out
  simp at y0 y1 y2 y3 y4 y5 y6 y7 y8 y9
  have hlx3 := heap_lt HX3.out
  have hg3 : g < w3.heap.size := Nat.lt_of_lt_of_le hg HB3.out.size
  have e0 : w3.cell? ⟨g, o + d * 14, none⟩ = some (.int .i64 q.df) := cell_later HB3.out (HD.out 0 _ rfl)
  have e1 : w3.cell? ⟨g, o + d * 14 + 1, none⟩ = some (.int .i64 q.ak) := cell_later HB3.out (HD.out 1 _ rfl)
  have e2 : w3.cell? ⟨g, o + d * 14 + 2, none⟩ = some (.int .i64 q.gd) := cell_later HB3.out (HD.out 2 _ rfl)
  have e3 : w3.cell? ⟨g, o + d * 14 + 3, none⟩ = some (.int .u8 q.ow) := cell_later HB3.out (HD.out 3 _ rfl)
  have e4 : w3.cell? ⟨g, o + d * 14 + 4, none⟩ = some (.int .u8 q.hs) := cell_later HB3.out (HD.out 4 _ rfl)
  have e5 : w3.cell? ⟨g, o + d * 14 + 5, none⟩ = some (.int .u8 q.zn) := cell_later HB3.out (HD.out 5 _ rfl)
  have e6 : w3.cell? ⟨g, o + d * 14 + 6, none⟩ = some (.int .i64 q.pl) := cell_later HB3.out (HD.out 6 _ rfl)
  have e7 : w3.cell? ⟨g, o + d * 14 + 7, none⟩ = some (.bool q.up) := cell_later HB3.out (HD.out 7 _ rfl)
  have e8 : w3.cell? ⟨g, o + d * 14 + 8, none⟩ = some (.bool q.lw) := cell_later HB3.out (HD.out 8 _ rfl)
  have e9 : w3.cell? ⟨g, o + d * 14 + 9, none⟩ = some (.int .i64 q.sc) := cell_later HB3.out (HD.out 9 _ rfl)
  have e10 : w3.cell? ⟨g, o + d * 14 + 10, none⟩ = some (.int .u8 q.us) := cell_later HB3.out (HD.out 10 _ rfl)
  have e11 : w3.cell? ⟨g, o + d * 14 + 11, none⟩ = some (.bool q.sk) := cell_later HB3.out (HD.out 11 _ rfl)
  have e12 : w3.cell? ⟨g, o + d * 14 + 12, none⟩ = some (.bool q.tu) := cell_later HB3.out (HD.out 12 _ rfl)
  have e13 : w3.cell? ⟨g, o + d * 14 + 13, none⟩ = some (.int .i64 q.bo) := cell_later HB3.out (HD.out 13 _ rfl)
  rw [HLW.out] at e8
  obtain ⟨w4, hw4⟩ : ∃ w4, w4 = w3.alloc (.cells (pcV q).toArray 45) := ⟨_, rfl⟩
  have HR4 : Hid (w4.heap[w.heap.size + 1]? = some _) := Lib.hid (by rw [hw4]; exact heap_older HR3.out)
  have HH4 : Hid (w4.heap[w.heap.size + 1 + 1]? = some _) := Lib.hid (by rw [hw4]; exact heap_older HH3.out)
  have HB4 : Hid (Below w.heap.size w w4) := Lib.hid (by rw [hw4]; exact below_al HB3.out)
  have hls : w.heap.size + 1 + 1 < w3.heap.size := heap_lt HH3.out
  have HW4 := Lib.hid hw4
  clear hw4
  simp only [pcV] at HW4
  rw [HLW.out] at HW4
  go_wp2_with fail
  rw [← HW4.out]
  clear y0 y1 y2 y3 y4 y5 y6 y7 y8 y9 e0 e1 e2 e3 e4 e5 e6 e7 e8 e9 e10 e11 e12 e13 hlx3
  (with_reducible refine (hfd.out _ HB4.out).mono ?_)
  rintro e w5 ⟨rfl, b5⟩
  have HB5 := Lib.hid (HB4.out.trans (b5.mono HB4.out.size))
  have HR5 := Lib.hid ((b5.block _ (heap_lt HR4.out)).trans HR4.out)
  have HH5 := Lib.hid ((b5.block _ (heap_lt HH4.out)).trans HH4.out)
  have hls5 : w.heap.size + 1 + 1 < w5.heap.size := heap_lt HH5.out
  clear b5
  have hlh5 := heap_lt HH5.out
  have z0 : w5.cell? ⟨w.heap.size + 1 + 1, 0, none⟩ = some (.int .i64 0) := cell_blk HH5.out
  have z1 : w5.cell? ⟨w.heap.size + 1 + 1, 1, none⟩ = some (.int .i64 0) := cell_blk HH5.out
  have hlr5 := heap_lt HR5.out
  have r0 : w5.cell? ⟨w.heap.size + 1, 0, none⟩ = some (.int .i64 0) := cell_blk HR5.out
  have r1 : w5.cell? ⟨w.heap.size + 1, 1, none⟩ = some (.int .i64 0) := cell_blk HR5.out
  have g0 := free_blk (i := 0) HH5.out
  have g1 := free_blk (i := 1) HH5.out
  have f0 := free_blk (i := 0) HR5.out
  have f1 := free_blk (i := 1) HR5.out
  go_wp2_with fail
  refine bodyPost_ret (results_cell_slot2 rfl _ _ _ (w.heap.size + 1) _ _ _ _ _ rfl (by (repeat (with_reducible refine heap_older ?_)); refine two_set1 (a0 := .int .i64 (0)) (a1 := .int .i64 0) (t := 24) _ ?_; refine two_set0 (a0 := .int .i64 0) (a1 := .int .i64 0) (t := 24) _ ?_; (repeat (first | (with_reducible exact HR5.out) | (with_reducible refine heap_older ?_) | (refine (heap_set_far (by show _ ≠ _; dsimp only; omega) _).trans ?_)))) Try.underlying24 (by kernel_rfl)) rfl ?_
  exact ⟨⟨_, rfl, (IntsOwn.one (by have := HB5.out.size; first | omega | (simp [World.setCell]; omega)) (by repeat (first | (with_reducible exact heap_alloc_new _ _) | (exact heap_newer _ _ _ (by simp [World.setCell])) | (with_reducible refine heap_older ?_) | (refine (heap_set_far (by show _ ≠ _; dsimp only; first | omega | (simp [World.setCell]; omega)) _).trans ?_))))⟩, (by repeat (first | (with_reducible exact HB5.out) | (with_reducible refine below_al ?_) | (refine Below.setCell ?_ (by show _ ≤ _; dsimp only; omega) _)))⟩

set_option maxHeartbeats 16000000 in
set_option maxRecDepth 100000 in
theorem rout_high0_eqp (t : Tb) (a d : Nat) (A B D : Int) (p q : Pc) (w : World) (hm : ∀ W, Below w.heap.size w W → Calls Try.prog 17 #[.agg t.row] W fun e w' => e = .returned (.bool true) ∧ Below W.heap.size W w') (hpa : a < t.np ∧ ∃ g o, t.qp = some ⟨g, o, none⟩ ∧ g < w.heap.size ∧ ∀ (j : Nat) (u : Value), (pcV p)[j]? = some u → w.cell? ⟨g, o + a * 14 + j, none⟩ = some u) (hat : attB p = true) (h3 : ¬ (d : Int) < -1) (h4 : ¬ (d : Int) ≥ (t.np : Int)) (hA : 0 ≤ A ∧ A ≤ 99999) (hf : ∀ W, Below w.heap.size w W → Calls Try.prog 16 #[.agg t.row, .int .i64 a] W fun e w' => e = .returned (.int .i64 A) ∧ Below W.heap.size W w') (hpd : d < t.np ∧ ∃ g o, t.qp = some ⟨g, o, none⟩ ∧ g < w.heap.size ∧ ∀ (j : Nat) (u : Value), (pcV q)[j]? = some u → w.cell? ⟨g, o + d * 14 + j, none⟩ = some u) (hz : q.zn = 2) (hh : p.hs = 0) (hk : q.hs = 1) (hlw : q.lw = false) (hB : 0 ≤ B ∧ B ≤ 99999) (hc : A = B) (hfd : ∀ W, Below w.heap.size w W → Calls Try.prog 16 #[.agg t.row, .int .i64 d] W fun e w' => e = .returned (.int .i64 B) ∧ Below W.heap.size W w') (hp : A > 0) :
    Calls Try.prog 10 #[.agg t.row, .int .i64 a, .int .i64 d] w (OutEnds ((((0, 0), [(a : Int), (d : Int)]) : FO)) 0 w) := by
  have HM := Lib.hid hm
  clear hm
  obtain ⟨hal, g, o, hq, hg, hc⟩ := hpa
  have HC := Lib.hid hc
  have hrd := Lib.hid fun W => rready_any p W
  have i0 : (0 : Int) ≤ (a : Int) := by omega
  have i1 : (a : Int) < (t.np : Int) := by omega
  have i2 : ¬ (a : Int) < 0 := by omega
  have i3 : ¬ (a : Int) ≥ (t.np : Int) := by omega
  clear hc
  have hf := Lib.hid hf
  rw [hat] at hrd
  obtain ⟨hdl, g', o', hq', hg', hd⟩ := hpd
  rw [hq, Option.some.injEq, Addr.mk.injEq] at hq'
  obtain ⟨rfl, rfl, -⟩ := hq'
  have HD := Lib.hid hd
  have j0 : (0 : Int) ≤ (d : Int) := by omega
  have j1 : (d : Int) < (t.np : Int) := by omega
  have dn : ((d : Int) == -1) = false := by first | (simp; done) | (simp; omega)
  have uw0 : IntKind.u8.wrap 0 = 0 := by kernel_rfl
  have uw1 : IntKind.u8.wrap 1 = 1 := by kernel_rfl
  clear hd
  have t1 : ((q.zn : Int) != 2) = false := by simp [hz]
  have t2 : ((q.hs : Int) == 0) = false := by rw [hk]; decide
  have m1 : max (IntKind.i64.wrap (B - A)) 0 = 0 := by rw [IntWalk.i64_in _ (by omega)]; omega
  have m1w : max (wrap64 (B - A)) 0 = 0 := by unfold wrap64; omega
  have m2 : max (IntKind.i64.wrap (A - B)) 0 = 0 := by rw [IntWalk.i64_in _ (by omega)]; omega
  have m2w : max (wrap64 (A - B)) 0 = 0 := by unfold wrap64; omega
  have hfd := Lib.hid hfd
  have m1v : max (B - A) 0 = 0 := by omega
  have m2v : max (A - B) 0 = 0 := by omega
  have cg : ¬ A > B := by omega
  have cl : ¬ A < B := by omega
  have cz : (A == 0) = false := by simp; omega
  have HP := Lib.hid hh
  have HK := Lib.hid hk
  have HLW := Lib.hid hlw
  clear hz hh hk hlw hc hB hA hp
  obtain ⟨w0, hw0⟩ : ∃ w0, w0 = ((w.alloc (.cells t.row 28)).alloc (.cells #[.int .i64 0, .int .i64 0] 24)).alloc (.cells #[.int .i64 0, .int .i64 0] 24) := ⟨_, rfl⟩
  have hb0 : Below w.heap.size w w0 := by rw [hw0]; exact below_al (below_al (below_al (Below.refl _ _)))
  have hx0 : w0.heap[w.heap.size]? = some (.cells t.row 28 (0, 0)) := by rw [hw0]; exact heap_older (heap_older (heap_alloc_new _ _))
  have hr0 : w0.heap[w.heap.size + 1]? = some (.cells #[.int .i64 0, .int .i64 0] 24 (0, 0)) := by rw [hw0]; exact heap_older (heap_newer _ _ _ (by simp))
  have hh0 : w0.heap[w.heap.size + 1 + 1]? = some (.cells #[.int .i64 0, .int .i64 0] 24 (0, 0)) := by rw [hw0]; exact heap_newer _ _ _ (by simp)
  have HB0 := Lib.hid hb0
  have HX0 := Lib.hid hx0
  have HR0 := Lib.hid hr0
  have HH0 := Lib.hid hh0
  have HW0 := Lib.hid hw0
  clear hb0 hx0 hr0 hh0 hw0
  simp only [Tb.row] at *
  rw [hq] at HM hf hfd HX0 HW0 ⊢
  clear hq
  go_enter Try.func10, Try.ntmps10
  go_wp2_with fail
  rw [← HW0.out]
  (with_reducible refine (HM.out _ HB0.out).mono ?_)
  rintro e w1 ⟨rfl, b1⟩
  have HB1 := Lib.hid (HB0.out.trans (b1.mono HB0.out.size))
  have HX1 := Lib.hid ((b1.block _ (heap_lt HX0.out)).trans HX0.out)
  have HR1 := Lib.hid ((b1.block _ (heap_lt HR0.out)).trans HR0.out)
  have HH1 := Lib.hid ((b1.block _ (heap_lt HH0.out)).trans HH0.out)
  clear b1
  have y1 := cell_blk (i := 1) HX1.out
  simp at y1
  have hlx1 := heap_lt HX1.out
  have c0 : w1.cell? ⟨g, o + a * 14, none⟩ = some (.int .i64 p.df) := cell_later HB1.out (HC.out 0 _ rfl)
  have c1 : w1.cell? ⟨g, o + a * 14 + 1, none⟩ = some (.int .i64 p.ak) := cell_later HB1.out (HC.out 1 _ rfl)
  have c2 : w1.cell? ⟨g, o + a * 14 + 2, none⟩ = some (.int .i64 p.gd) := cell_later HB1.out (HC.out 2 _ rfl)
  have c3 : w1.cell? ⟨g, o + a * 14 + 3, none⟩ = some (.int .u8 p.ow) := cell_later HB1.out (HC.out 3 _ rfl)
  have c4 : w1.cell? ⟨g, o + a * 14 + 4, none⟩ = some (.int .u8 p.hs) := cell_later HB1.out (HC.out 4 _ rfl)
  have c5 : w1.cell? ⟨g, o + a * 14 + 5, none⟩ = some (.int .u8 p.zn) := cell_later HB1.out (HC.out 5 _ rfl)
  have c6 : w1.cell? ⟨g, o + a * 14 + 6, none⟩ = some (.int .i64 p.pl) := cell_later HB1.out (HC.out 6 _ rfl)
  have c7 : w1.cell? ⟨g, o + a * 14 + 7, none⟩ = some (.bool p.up) := cell_later HB1.out (HC.out 7 _ rfl)
  have c8 : w1.cell? ⟨g, o + a * 14 + 8, none⟩ = some (.bool p.lw) := cell_later HB1.out (HC.out 8 _ rfl)
  have c9 : w1.cell? ⟨g, o + a * 14 + 9, none⟩ = some (.int .i64 p.sc) := cell_later HB1.out (HC.out 9 _ rfl)
  have c10 : w1.cell? ⟨g, o + a * 14 + 10, none⟩ = some (.int .u8 p.us) := cell_later HB1.out (HC.out 10 _ rfl)
  have c11 : w1.cell? ⟨g, o + a * 14 + 11, none⟩ = some (.bool p.sk) := cell_later HB1.out (HC.out 11 _ rfl)
  have c12 : w1.cell? ⟨g, o + a * 14 + 12, none⟩ = some (.bool p.tu) := cell_later HB1.out (HC.out 12 _ rfl)
  have c13 : w1.cell? ⟨g, o + a * 14 + 13, none⟩ = some (.int .i64 p.bo) := cell_later HB1.out (HC.out 13 _ rfl)
  simp only [pcV] at hrd
  go_wp2_with fail
  (with_reducible refine (hrd.out _).mono ?_)
  rintro e w2 ⟨rfl, b2⟩
  have HB2 := Lib.hid (HB1.out.trans (b2.mono HB1.out.size))
  have HX2 := Lib.hid ((b2.block _ (heap_lt HX1.out)).trans HX1.out)
  have HR2 := Lib.hid ((b2.block _ (heap_lt HR1.out)).trans HR1.out)
  have HH2 := Lib.hid ((b2.block _ (heap_lt HH1.out)).trans HH1.out)
  clear b2 y1 c0 c1 c2 c3 c4 c5 c6 c7 c8 c9 c10 c11 c12 c13 hlx1
  have y0 := cell_blk (i := 0) HX2.out
  have y1 := cell_blk (i := 1) HX2.out
  have y2 := cell_blk (i := 2) HX2.out
  have y3 := cell_blk (i := 3) HX2.out
  have y4 := cell_blk (i := 4) HX2.out
  have y5 := cell_blk (i := 5) HX2.out
  have y6 := cell_blk (i := 6) HX2.out
  have y7 := cell_blk (i := 7) HX2.out
  have y8 := cell_blk (i := 8) HX2.out
  have y9 := cell_blk (i := 9) HX2.out
  simp at y0 y1 y2 y3 y4 y5 y6 y7 y8 y9
  have hlx2 := heap_lt HX2.out
  have c4 : w2.cell? ⟨g, o + a * 14 + 4, none⟩ = some (.int .u8 p.hs) := cell_later HB2.out (HC.out 4 _ rfl)
  rw [HP.out] at c4
  go_wp2_with fail
  (with_reducible refine (hf.out _ HB2.out).mono ?_)
  rintro e w3 ⟨rfl, b3⟩
  have HB3 := Lib.hid (HB2.out.trans (b3.mono HB2.out.size))
  have HX3 := Lib.hid ((b3.block _ (heap_lt HX2.out)).trans HX2.out)
  have HR3 := Lib.hid ((b3.block _ (heap_lt HR2.out)).trans HR2.out)
  have HH3 := Lib.hid ((b3.block _ (heap_lt HH2.out)).trans HH2.out)
  clear b3 y0 y1 y2 y3 y4 y5 y6 y7 y8 y9 c4 hlx2
  have y0 := cell_blk (i := 0) HX3.out
  have y1 := cell_blk (i := 1) HX3.out
  have y2 := cell_blk (i := 2) HX3.out
  have y3 := cell_blk (i := 3) HX3.out
  have y4 := cell_blk (i := 4) HX3.out
  have y5 := cell_blk (i := 5) HX3.out
  have y6 := cell_blk (i := 6) HX3.out
  have y7 := cell_blk (i := 7) HX3.out
  have y8 := cell_blk (i := 8) HX3.out
  have y9 := cell_blk (i := 9) HX3.out
  simp at y0 y1 y2 y3 y4 y5 y6 y7 y8 y9
  have hlx3 := heap_lt HX3.out
  have hg3 : g < w3.heap.size := Nat.lt_of_lt_of_le hg HB3.out.size
  have e0 : w3.cell? ⟨g, o + d * 14, none⟩ = some (.int .i64 q.df) := cell_later HB3.out (HD.out 0 _ rfl)
  have e1 : w3.cell? ⟨g, o + d * 14 + 1, none⟩ = some (.int .i64 q.ak) := cell_later HB3.out (HD.out 1 _ rfl)
  have e2 : w3.cell? ⟨g, o + d * 14 + 2, none⟩ = some (.int .i64 q.gd) := cell_later HB3.out (HD.out 2 _ rfl)
  have e3 : w3.cell? ⟨g, o + d * 14 + 3, none⟩ = some (.int .u8 q.ow) := cell_later HB3.out (HD.out 3 _ rfl)
  have e4 : w3.cell? ⟨g, o + d * 14 + 4, none⟩ = some (.int .u8 q.hs) := cell_later HB3.out (HD.out 4 _ rfl)
  have e5 : w3.cell? ⟨g, o + d * 14 + 5, none⟩ = some (.int .u8 q.zn) := cell_later HB3.out (HD.out 5 _ rfl)
  have e6 : w3.cell? ⟨g, o + d * 14 + 6, none⟩ = some (.int .i64 q.pl) := cell_later HB3.out (HD.out 6 _ rfl)
  have e7 : w3.cell? ⟨g, o + d * 14 + 7, none⟩ = some (.bool q.up) := cell_later HB3.out (HD.out 7 _ rfl)
  have e8 : w3.cell? ⟨g, o + d * 14 + 8, none⟩ = some (.bool q.lw) := cell_later HB3.out (HD.out 8 _ rfl)
  have e9 : w3.cell? ⟨g, o + d * 14 + 9, none⟩ = some (.int .i64 q.sc) := cell_later HB3.out (HD.out 9 _ rfl)
  have e10 : w3.cell? ⟨g, o + d * 14 + 10, none⟩ = some (.int .u8 q.us) := cell_later HB3.out (HD.out 10 _ rfl)
  have e11 : w3.cell? ⟨g, o + d * 14 + 11, none⟩ = some (.bool q.sk) := cell_later HB3.out (HD.out 11 _ rfl)
  have e12 : w3.cell? ⟨g, o + d * 14 + 12, none⟩ = some (.bool q.tu) := cell_later HB3.out (HD.out 12 _ rfl)
  have e13 : w3.cell? ⟨g, o + d * 14 + 13, none⟩ = some (.int .i64 q.bo) := cell_later HB3.out (HD.out 13 _ rfl)
  rw [HLW.out] at e8
  obtain ⟨w4, hw4⟩ : ∃ w4, w4 = w3.alloc (.cells (pcV q).toArray 45) := ⟨_, rfl⟩
  have HR4 : Hid (w4.heap[w.heap.size + 1]? = some _) := Lib.hid (by rw [hw4]; exact heap_older HR3.out)
  have HH4 : Hid (w4.heap[w.heap.size + 1 + 1]? = some _) := Lib.hid (by rw [hw4]; exact heap_older HH3.out)
  have HB4 : Hid (Below w.heap.size w w4) := Lib.hid (by rw [hw4]; exact below_al HB3.out)
  have hls : w.heap.size + 1 + 1 < w3.heap.size := heap_lt HH3.out
  have HW4 := Lib.hid hw4
  clear hw4
  simp only [pcV] at HW4
  rw [HLW.out] at HW4
  go_wp2_with fail
  rw [← HW4.out]
  clear y0 y1 y2 y3 y4 y5 y6 y7 y8 y9 e0 e1 e2 e3 e4 e5 e6 e7 e8 e9 e10 e11 e12 e13 hlx3
  (with_reducible refine (hfd.out _ HB4.out).mono ?_)
  rintro e w5 ⟨rfl, b5⟩
  have HB5 := Lib.hid (HB4.out.trans (b5.mono HB4.out.size))
  have HR5 := Lib.hid ((b5.block _ (heap_lt HR4.out)).trans HR4.out)
  have HH5 := Lib.hid ((b5.block _ (heap_lt HH4.out)).trans HH4.out)
  have hls5 : w.heap.size + 1 + 1 < w5.heap.size := heap_lt HH5.out
  clear b5
  have hlh5 := heap_lt HH5.out
  have z0 : w5.cell? ⟨w.heap.size + 1 + 1, 0, none⟩ = some (.int .i64 0) := cell_blk HH5.out
  have z1 : w5.cell? ⟨w.heap.size + 1 + 1, 1, none⟩ = some (.int .i64 0) := cell_blk HH5.out
  have hlr5 := heap_lt HR5.out
  have r0 : w5.cell? ⟨w.heap.size + 1, 0, none⟩ = some (.int .i64 0) := cell_blk HR5.out
  have r1 : w5.cell? ⟨w.heap.size + 1, 1, none⟩ = some (.int .i64 0) := cell_blk HR5.out
  have g0 := free_blk (i := 0) HH5.out
  have g1 := free_blk (i := 1) HH5.out
  have f0 := free_blk (i := 0) HR5.out
  have f1 := free_blk (i := 1) HR5.out
  go_wp2_with fail
  refine bodyPost_ret (results_cell_slot2 rfl _ _ _ (w.heap.size + 1) _ _ _ _ _ rfl (by (repeat (with_reducible refine heap_older ?_)); refine two_set1 (a0 := .int .i64 (0)) (a1 := .int .i64 0) (t := 24) _ ?_; refine two_set0 (a0 := .int .i64 0) (a1 := .int .i64 0) (t := 24) _ ?_; (repeat (first | (with_reducible exact HR5.out) | (with_reducible refine heap_older ?_) | (refine (heap_set_far (by show _ ≠ _; dsimp only; omega) _).trans ?_)))) Try.underlying24 (by kernel_rfl)) rfl ?_
  exact ⟨⟨_, rfl, (IntsOwn.two (by have := HB5.out.size; first | omega | (simp [World.setCell]; omega)) (by repeat (first | (with_reducible exact heap_alloc_new _ _) | (exact heap_newer _ _ _ (by simp [World.setCell])) | (with_reducible refine heap_older ?_) | (refine (heap_set_far (by show _ ≠ _; dsimp only; first | omega | (simp [World.setCell]; omega)) _).trans ?_))))⟩, (by repeat (first | (with_reducible exact HB5.out) | (with_reducible refine below_al ?_) | (refine Below.setCell ?_ (by show _ ≤ _; dsimp only; omega) _)))⟩

set_option maxHeartbeats 16000000 in
set_option maxRecDepth 100000 in
theorem rout_high0_eqz (t : Tb) (a d : Nat) (A B D : Int) (p q : Pc) (w : World) (hm : ∀ W, Below w.heap.size w W → Calls Try.prog 17 #[.agg t.row] W fun e w' => e = .returned (.bool true) ∧ Below W.heap.size W w') (hpa : a < t.np ∧ ∃ g o, t.qp = some ⟨g, o, none⟩ ∧ g < w.heap.size ∧ ∀ (j : Nat) (u : Value), (pcV p)[j]? = some u → w.cell? ⟨g, o + a * 14 + j, none⟩ = some u) (hat : attB p = true) (h3 : ¬ (d : Int) < -1) (h4 : ¬ (d : Int) ≥ (t.np : Int)) (hA : 0 ≤ A ∧ A ≤ 99999) (hf : ∀ W, Below w.heap.size w W → Calls Try.prog 16 #[.agg t.row, .int .i64 a] W fun e w' => e = .returned (.int .i64 A) ∧ Below W.heap.size W w') (hpd : d < t.np ∧ ∃ g o, t.qp = some ⟨g, o, none⟩ ∧ g < w.heap.size ∧ ∀ (j : Nat) (u : Value), (pcV q)[j]? = some u → w.cell? ⟨g, o + d * 14 + j, none⟩ = some u) (hz : q.zn = 2) (hh : p.hs = 0) (hk : q.hs = 1) (hlw : q.lw = false) (hB : 0 ≤ B ∧ B ≤ 99999) (hc : A = B) (hfd : ∀ W, Below w.heap.size w W → Calls Try.prog 16 #[.agg t.row, .int .i64 d] W fun e w' => e = .returned (.int .i64 B) ∧ Below W.heap.size W w') (hp : ¬ A > 0) :
    Calls Try.prog 10 #[.agg t.row, .int .i64 a, .int .i64 d] w (OutEnds ((((0, 0), []) : FO)) 0 w) := by
  have HM := Lib.hid hm
  clear hm
  obtain ⟨hal, g, o, hq, hg, hc⟩ := hpa
  have HC := Lib.hid hc
  have hrd := Lib.hid fun W => rready_any p W
  have i0 : (0 : Int) ≤ (a : Int) := by omega
  have i1 : (a : Int) < (t.np : Int) := by omega
  have i2 : ¬ (a : Int) < 0 := by omega
  have i3 : ¬ (a : Int) ≥ (t.np : Int) := by omega
  clear hc
  have hf := Lib.hid hf
  rw [hat] at hrd
  obtain ⟨hdl, g', o', hq', hg', hd⟩ := hpd
  rw [hq, Option.some.injEq, Addr.mk.injEq] at hq'
  obtain ⟨rfl, rfl, -⟩ := hq'
  have HD := Lib.hid hd
  have j0 : (0 : Int) ≤ (d : Int) := by omega
  have j1 : (d : Int) < (t.np : Int) := by omega
  have dn : ((d : Int) == -1) = false := by first | (simp; done) | (simp; omega)
  have uw0 : IntKind.u8.wrap 0 = 0 := by kernel_rfl
  have uw1 : IntKind.u8.wrap 1 = 1 := by kernel_rfl
  clear hd
  have t1 : ((q.zn : Int) != 2) = false := by simp [hz]
  have t2 : ((q.hs : Int) == 0) = false := by rw [hk]; decide
  have m1 : max (IntKind.i64.wrap (B - A)) 0 = 0 := by rw [IntWalk.i64_in _ (by omega)]; omega
  have m1w : max (wrap64 (B - A)) 0 = 0 := by unfold wrap64; omega
  have m2 : max (IntKind.i64.wrap (A - B)) 0 = 0 := by rw [IntWalk.i64_in _ (by omega)]; omega
  have m2w : max (wrap64 (A - B)) 0 = 0 := by unfold wrap64; omega
  have hfd := Lib.hid hfd
  have m1v : max (B - A) 0 = 0 := by omega
  have m2v : max (A - B) 0 = 0 := by omega
  have cg : ¬ A > B := by omega
  have cl : ¬ A < B := by omega
  have cz : (A == 0) = true := by simp; omega
  have HP := Lib.hid hh
  have HK := Lib.hid hk
  have HLW := Lib.hid hlw
  clear hz hh hk hlw hc hB hA hp
  obtain ⟨w0, hw0⟩ : ∃ w0, w0 = ((w.alloc (.cells t.row 28)).alloc (.cells #[.int .i64 0, .int .i64 0] 24)).alloc (.cells #[.int .i64 0, .int .i64 0] 24) := ⟨_, rfl⟩
  have hb0 : Below w.heap.size w w0 := by rw [hw0]; exact below_al (below_al (below_al (Below.refl _ _)))
  have hx0 : w0.heap[w.heap.size]? = some (.cells t.row 28 (0, 0)) := by rw [hw0]; exact heap_older (heap_older (heap_alloc_new _ _))
  have hr0 : w0.heap[w.heap.size + 1]? = some (.cells #[.int .i64 0, .int .i64 0] 24 (0, 0)) := by rw [hw0]; exact heap_older (heap_newer _ _ _ (by simp))
  have hh0 : w0.heap[w.heap.size + 1 + 1]? = some (.cells #[.int .i64 0, .int .i64 0] 24 (0, 0)) := by rw [hw0]; exact heap_newer _ _ _ (by simp)
  have HB0 := Lib.hid hb0
  have HX0 := Lib.hid hx0
  have HR0 := Lib.hid hr0
  have HH0 := Lib.hid hh0
  have HW0 := Lib.hid hw0
  clear hb0 hx0 hr0 hh0 hw0
  simp only [Tb.row] at *
  rw [hq] at HM hf hfd HX0 HW0 ⊢
  clear hq
  go_enter Try.func10, Try.ntmps10
  go_wp2_with fail
  rw [← HW0.out]
  (with_reducible refine (HM.out _ HB0.out).mono ?_)
  rintro e w1 ⟨rfl, b1⟩
  have HB1 := Lib.hid (HB0.out.trans (b1.mono HB0.out.size))
  have HX1 := Lib.hid ((b1.block _ (heap_lt HX0.out)).trans HX0.out)
  have HR1 := Lib.hid ((b1.block _ (heap_lt HR0.out)).trans HR0.out)
  have HH1 := Lib.hid ((b1.block _ (heap_lt HH0.out)).trans HH0.out)
  clear b1
  have y1 := cell_blk (i := 1) HX1.out
  simp at y1
  have hlx1 := heap_lt HX1.out
  have c0 : w1.cell? ⟨g, o + a * 14, none⟩ = some (.int .i64 p.df) := cell_later HB1.out (HC.out 0 _ rfl)
  have c1 : w1.cell? ⟨g, o + a * 14 + 1, none⟩ = some (.int .i64 p.ak) := cell_later HB1.out (HC.out 1 _ rfl)
  have c2 : w1.cell? ⟨g, o + a * 14 + 2, none⟩ = some (.int .i64 p.gd) := cell_later HB1.out (HC.out 2 _ rfl)
  have c3 : w1.cell? ⟨g, o + a * 14 + 3, none⟩ = some (.int .u8 p.ow) := cell_later HB1.out (HC.out 3 _ rfl)
  have c4 : w1.cell? ⟨g, o + a * 14 + 4, none⟩ = some (.int .u8 p.hs) := cell_later HB1.out (HC.out 4 _ rfl)
  have c5 : w1.cell? ⟨g, o + a * 14 + 5, none⟩ = some (.int .u8 p.zn) := cell_later HB1.out (HC.out 5 _ rfl)
  have c6 : w1.cell? ⟨g, o + a * 14 + 6, none⟩ = some (.int .i64 p.pl) := cell_later HB1.out (HC.out 6 _ rfl)
  have c7 : w1.cell? ⟨g, o + a * 14 + 7, none⟩ = some (.bool p.up) := cell_later HB1.out (HC.out 7 _ rfl)
  have c8 : w1.cell? ⟨g, o + a * 14 + 8, none⟩ = some (.bool p.lw) := cell_later HB1.out (HC.out 8 _ rfl)
  have c9 : w1.cell? ⟨g, o + a * 14 + 9, none⟩ = some (.int .i64 p.sc) := cell_later HB1.out (HC.out 9 _ rfl)
  have c10 : w1.cell? ⟨g, o + a * 14 + 10, none⟩ = some (.int .u8 p.us) := cell_later HB1.out (HC.out 10 _ rfl)
  have c11 : w1.cell? ⟨g, o + a * 14 + 11, none⟩ = some (.bool p.sk) := cell_later HB1.out (HC.out 11 _ rfl)
  have c12 : w1.cell? ⟨g, o + a * 14 + 12, none⟩ = some (.bool p.tu) := cell_later HB1.out (HC.out 12 _ rfl)
  have c13 : w1.cell? ⟨g, o + a * 14 + 13, none⟩ = some (.int .i64 p.bo) := cell_later HB1.out (HC.out 13 _ rfl)
  simp only [pcV] at hrd
  go_wp2_with fail
  (with_reducible refine (hrd.out _).mono ?_)
  rintro e w2 ⟨rfl, b2⟩
  have HB2 := Lib.hid (HB1.out.trans (b2.mono HB1.out.size))
  have HX2 := Lib.hid ((b2.block _ (heap_lt HX1.out)).trans HX1.out)
  have HR2 := Lib.hid ((b2.block _ (heap_lt HR1.out)).trans HR1.out)
  have HH2 := Lib.hid ((b2.block _ (heap_lt HH1.out)).trans HH1.out)
  clear b2 y1 c0 c1 c2 c3 c4 c5 c6 c7 c8 c9 c10 c11 c12 c13 hlx1
  have y0 := cell_blk (i := 0) HX2.out
  have y1 := cell_blk (i := 1) HX2.out
  have y2 := cell_blk (i := 2) HX2.out
  have y3 := cell_blk (i := 3) HX2.out
  have y4 := cell_blk (i := 4) HX2.out
  have y5 := cell_blk (i := 5) HX2.out
  have y6 := cell_blk (i := 6) HX2.out
  have y7 := cell_blk (i := 7) HX2.out
  have y8 := cell_blk (i := 8) HX2.out
  have y9 := cell_blk (i := 9) HX2.out
  simp at y0 y1 y2 y3 y4 y5 y6 y7 y8 y9
  have hlx2 := heap_lt HX2.out
  have c4 : w2.cell? ⟨g, o + a * 14 + 4, none⟩ = some (.int .u8 p.hs) := cell_later HB2.out (HC.out 4 _ rfl)
  rw [HP.out] at c4
  go_wp2_with fail
  (with_reducible refine (hf.out _ HB2.out).mono ?_)
  rintro e w3 ⟨rfl, b3⟩
  have HB3 := Lib.hid (HB2.out.trans (b3.mono HB2.out.size))
  have HX3 := Lib.hid ((b3.block _ (heap_lt HX2.out)).trans HX2.out)
  have HR3 := Lib.hid ((b3.block _ (heap_lt HR2.out)).trans HR2.out)
  have HH3 := Lib.hid ((b3.block _ (heap_lt HH2.out)).trans HH2.out)
  clear b3 y0 y1 y2 y3 y4 y5 y6 y7 y8 y9 c4 hlx2
  have y0 := cell_blk (i := 0) HX3.out
  have y1 := cell_blk (i := 1) HX3.out
  have y2 := cell_blk (i := 2) HX3.out
  have y3 := cell_blk (i := 3) HX3.out
  have y4 := cell_blk (i := 4) HX3.out
  have y5 := cell_blk (i := 5) HX3.out
  have y6 := cell_blk (i := 6) HX3.out
  have y7 := cell_blk (i := 7) HX3.out
  have y8 := cell_blk (i := 8) HX3.out
  have y9 := cell_blk (i := 9) HX3.out
  simp at y0 y1 y2 y3 y4 y5 y6 y7 y8 y9
  have hlx3 := heap_lt HX3.out
  have hg3 : g < w3.heap.size := Nat.lt_of_lt_of_le hg HB3.out.size
  have e0 : w3.cell? ⟨g, o + d * 14, none⟩ = some (.int .i64 q.df) := cell_later HB3.out (HD.out 0 _ rfl)
  have e1 : w3.cell? ⟨g, o + d * 14 + 1, none⟩ = some (.int .i64 q.ak) := cell_later HB3.out (HD.out 1 _ rfl)
  have e2 : w3.cell? ⟨g, o + d * 14 + 2, none⟩ = some (.int .i64 q.gd) := cell_later HB3.out (HD.out 2 _ rfl)
  have e3 : w3.cell? ⟨g, o + d * 14 + 3, none⟩ = some (.int .u8 q.ow) := cell_later HB3.out (HD.out 3 _ rfl)
  have e4 : w3.cell? ⟨g, o + d * 14 + 4, none⟩ = some (.int .u8 q.hs) := cell_later HB3.out (HD.out 4 _ rfl)
  have e5 : w3.cell? ⟨g, o + d * 14 + 5, none⟩ = some (.int .u8 q.zn) := cell_later HB3.out (HD.out 5 _ rfl)
  have e6 : w3.cell? ⟨g, o + d * 14 + 6, none⟩ = some (.int .i64 q.pl) := cell_later HB3.out (HD.out 6 _ rfl)
  have e7 : w3.cell? ⟨g, o + d * 14 + 7, none⟩ = some (.bool q.up) := cell_later HB3.out (HD.out 7 _ rfl)
  have e8 : w3.cell? ⟨g, o + d * 14 + 8, none⟩ = some (.bool q.lw) := cell_later HB3.out (HD.out 8 _ rfl)
  have e9 : w3.cell? ⟨g, o + d * 14 + 9, none⟩ = some (.int .i64 q.sc) := cell_later HB3.out (HD.out 9 _ rfl)
  have e10 : w3.cell? ⟨g, o + d * 14 + 10, none⟩ = some (.int .u8 q.us) := cell_later HB3.out (HD.out 10 _ rfl)
  have e11 : w3.cell? ⟨g, o + d * 14 + 11, none⟩ = some (.bool q.sk) := cell_later HB3.out (HD.out 11 _ rfl)
  have e12 : w3.cell? ⟨g, o + d * 14 + 12, none⟩ = some (.bool q.tu) := cell_later HB3.out (HD.out 12 _ rfl)
  have e13 : w3.cell? ⟨g, o + d * 14 + 13, none⟩ = some (.int .i64 q.bo) := cell_later HB3.out (HD.out 13 _ rfl)
  rw [HLW.out] at e8
  obtain ⟨w4, hw4⟩ : ∃ w4, w4 = w3.alloc (.cells (pcV q).toArray 45) := ⟨_, rfl⟩
  have HR4 : Hid (w4.heap[w.heap.size + 1]? = some _) := Lib.hid (by rw [hw4]; exact heap_older HR3.out)
  have HH4 : Hid (w4.heap[w.heap.size + 1 + 1]? = some _) := Lib.hid (by rw [hw4]; exact heap_older HH3.out)
  have HB4 : Hid (Below w.heap.size w w4) := Lib.hid (by rw [hw4]; exact below_al HB3.out)
  have hls : w.heap.size + 1 + 1 < w3.heap.size := heap_lt HH3.out
  have HW4 := Lib.hid hw4
  clear hw4
  simp only [pcV] at HW4
  rw [HLW.out] at HW4
  go_wp2_with fail
  rw [← HW4.out]
  clear y0 y1 y2 y3 y4 y5 y6 y7 y8 y9 e0 e1 e2 e3 e4 e5 e6 e7 e8 e9 e10 e11 e12 e13 hlx3
  (with_reducible refine (hfd.out _ HB4.out).mono ?_)
  rintro e w5 ⟨rfl, b5⟩
  have HB5 := Lib.hid (HB4.out.trans (b5.mono HB4.out.size))
  have HR5 := Lib.hid ((b5.block _ (heap_lt HR4.out)).trans HR4.out)
  have HH5 := Lib.hid ((b5.block _ (heap_lt HH4.out)).trans HH4.out)
  have hls5 : w.heap.size + 1 + 1 < w5.heap.size := heap_lt HH5.out
  clear b5
  have hlh5 := heap_lt HH5.out
  have z0 : w5.cell? ⟨w.heap.size + 1 + 1, 0, none⟩ = some (.int .i64 0) := cell_blk HH5.out
  have z1 : w5.cell? ⟨w.heap.size + 1 + 1, 1, none⟩ = some (.int .i64 0) := cell_blk HH5.out
  have hlr5 := heap_lt HR5.out
  have r0 : w5.cell? ⟨w.heap.size + 1, 0, none⟩ = some (.int .i64 0) := cell_blk HR5.out
  have r1 : w5.cell? ⟨w.heap.size + 1, 1, none⟩ = some (.int .i64 0) := cell_blk HR5.out
  have g0 := free_blk (i := 0) HH5.out
  have g1 := free_blk (i := 1) HH5.out
  have f0 := free_blk (i := 0) HR5.out
  have f1 := free_blk (i := 1) HR5.out
  go_wp2_with fail
  refine bodyPost_ret (results_cell_slot2 rfl _ _ _ (w.heap.size + 1) _ _ _ _ _ rfl (by (repeat (with_reducible refine heap_older ?_)); refine two_set1 (a0 := .int .i64 (0)) (a1 := .int .i64 0) (t := 24) _ ?_; refine two_set0 (a0 := .int .i64 0) (a1 := .int .i64 0) (t := 24) _ ?_; (repeat (first | (with_reducible exact HR5.out) | (with_reducible refine heap_older ?_) | (refine (heap_set_far (by show _ ≠ _; dsimp only; omega) _).trans ?_)))) Try.underlying24 (by kernel_rfl)) rfl ?_
  exact ⟨⟨_, rfl, IntsOwn.nil _ _⟩, (by repeat (first | (with_reducible exact HB5.out) | (with_reducible refine below_al ?_) | (refine Below.setCell ?_ (by show _ ≤ _; dsimp only; omega) _)))⟩

set_option maxHeartbeats 16000000 in
set_option maxRecDepth 100000 in
theorem rout_high1_lt (t : Tb) (a d : Nat) (A B D : Int) (p q : Pc) (w : World) (hm : ∀ W, Below w.heap.size w W → Calls Try.prog 17 #[.agg t.row] W fun e w' => e = .returned (.bool true) ∧ Below W.heap.size W w') (hpa : a < t.np ∧ ∃ g o, t.qp = some ⟨g, o, none⟩ ∧ g < w.heap.size ∧ ∀ (j : Nat) (u : Value), (pcV p)[j]? = some u → w.cell? ⟨g, o + a * 14 + j, none⟩ = some u) (hat : attB p = true) (h3 : ¬ (d : Int) < -1) (h4 : ¬ (d : Int) ≥ (t.np : Int)) (hA : 0 ≤ A ∧ A ≤ 99999) (hf : ∀ W, Below w.heap.size w W → Calls Try.prog 16 #[.agg t.row, .int .i64 a] W fun e w' => e = .returned (.int .i64 A) ∧ Below W.heap.size W w') (hpd : d < t.np ∧ ∃ g o, t.qp = some ⟨g, o, none⟩ ∧ g < w.heap.size ∧ ∀ (j : Nat) (u : Value), (pcV q)[j]? = some u → w.cell? ⟨g, o + d * 14 + j, none⟩ = some u) (hz : q.zn = 2) (hh : p.hs = 1) (hk : q.hs = 0) (hlw : q.lw = false) (hB : 0 ≤ B ∧ B ≤ 99999) (hD : D = B - A) (hc : A < B) (hfd : ∀ W, Below w.heap.size w W → Calls Try.prog 16 #[.agg t.row, .int .i64 d] W fun e w' => e = .returned (.int .i64 B) ∧ Below W.heap.size W w') :
    Calls Try.prog 10 #[.agg t.row, .int .i64 a, .int .i64 d] w (OutEnds ((((0, D), [(a : Int)]) : FO)) 0 w) := by
  have HM := Lib.hid hm
  clear hm
  obtain ⟨hal, g, o, hq, hg, hc⟩ := hpa
  have HC := Lib.hid hc
  have hrd := Lib.hid fun W => rready_any p W
  have i0 : (0 : Int) ≤ (a : Int) := by omega
  have i1 : (a : Int) < (t.np : Int) := by omega
  have i2 : ¬ (a : Int) < 0 := by omega
  have i3 : ¬ (a : Int) ≥ (t.np : Int) := by omega
  clear hc
  have hf := Lib.hid hf
  rw [hat] at hrd
  obtain ⟨hdl, g', o', hq', hg', hd⟩ := hpd
  rw [hq, Option.some.injEq, Addr.mk.injEq] at hq'
  obtain ⟨rfl, rfl, -⟩ := hq'
  have HD := Lib.hid hd
  have j0 : (0 : Int) ≤ (d : Int) := by omega
  have j1 : (d : Int) < (t.np : Int) := by omega
  have dn : ((d : Int) == -1) = false := by first | (simp; done) | (simp; omega)
  have uw0 : IntKind.u8.wrap 0 = 0 := by kernel_rfl
  have uw1 : IntKind.u8.wrap 1 = 1 := by kernel_rfl
  clear hd
  have t1 : ((q.zn : Int) != 2) = false := by simp [hz]
  have t2 : ((q.hs : Int) == 1) = false := by rw [hk]; decide
  have m1 : max (IntKind.i64.wrap (B - A)) 0 = D := by rw [IntWalk.i64_in _ (by omega)]; omega
  have m1w : max (wrap64 (B - A)) 0 = D := by unfold wrap64; omega
  have m2 : max (IntKind.i64.wrap (A - B)) 0 = 0 := by rw [IntWalk.i64_in _ (by omega)]; omega
  have m2w : max (wrap64 (A - B)) 0 = 0 := by unfold wrap64; omega
  have hfd := Lib.hid hfd
  have cg : ¬ A > B := by omega
  have cl : A < B := hc
  have HP := Lib.hid hh
  have HK := Lib.hid hk
  have HLW := Lib.hid hlw
  clear hz hh hk hlw hc hD hB hA
  obtain ⟨w0, hw0⟩ : ∃ w0, w0 = ((w.alloc (.cells t.row 28)).alloc (.cells #[.int .i64 0, .int .i64 0] 24)).alloc (.cells #[.int .i64 0, .int .i64 0] 24) := ⟨_, rfl⟩
  have hb0 : Below w.heap.size w w0 := by rw [hw0]; exact below_al (below_al (below_al (Below.refl _ _)))
  have hx0 : w0.heap[w.heap.size]? = some (.cells t.row 28 (0, 0)) := by rw [hw0]; exact heap_older (heap_older (heap_alloc_new _ _))
  have hr0 : w0.heap[w.heap.size + 1]? = some (.cells #[.int .i64 0, .int .i64 0] 24 (0, 0)) := by rw [hw0]; exact heap_older (heap_newer _ _ _ (by simp))
  have hh0 : w0.heap[w.heap.size + 1 + 1]? = some (.cells #[.int .i64 0, .int .i64 0] 24 (0, 0)) := by rw [hw0]; exact heap_newer _ _ _ (by simp)
  have HB0 := Lib.hid hb0
  have HX0 := Lib.hid hx0
  have HR0 := Lib.hid hr0
  have HH0 := Lib.hid hh0
  have HW0 := Lib.hid hw0
  clear hb0 hx0 hr0 hh0 hw0
  simp only [Tb.row] at *
  rw [hq] at HM hf hfd HX0 HW0 ⊢
  clear hq
  go_enter Try.func10, Try.ntmps10
  go_wp2_with fail
  rw [← HW0.out]
  (with_reducible refine (HM.out _ HB0.out).mono ?_)
  rintro e w1 ⟨rfl, b1⟩
  have HB1 := Lib.hid (HB0.out.trans (b1.mono HB0.out.size))
  have HX1 := Lib.hid ((b1.block _ (heap_lt HX0.out)).trans HX0.out)
  have HR1 := Lib.hid ((b1.block _ (heap_lt HR0.out)).trans HR0.out)
  have HH1 := Lib.hid ((b1.block _ (heap_lt HH0.out)).trans HH0.out)
  clear b1
  have y1 := cell_blk (i := 1) HX1.out
  simp at y1
  have hlx1 := heap_lt HX1.out
  have c0 : w1.cell? ⟨g, o + a * 14, none⟩ = some (.int .i64 p.df) := cell_later HB1.out (HC.out 0 _ rfl)
  have c1 : w1.cell? ⟨g, o + a * 14 + 1, none⟩ = some (.int .i64 p.ak) := cell_later HB1.out (HC.out 1 _ rfl)
  have c2 : w1.cell? ⟨g, o + a * 14 + 2, none⟩ = some (.int .i64 p.gd) := cell_later HB1.out (HC.out 2 _ rfl)
  have c3 : w1.cell? ⟨g, o + a * 14 + 3, none⟩ = some (.int .u8 p.ow) := cell_later HB1.out (HC.out 3 _ rfl)
  have c4 : w1.cell? ⟨g, o + a * 14 + 4, none⟩ = some (.int .u8 p.hs) := cell_later HB1.out (HC.out 4 _ rfl)
  have c5 : w1.cell? ⟨g, o + a * 14 + 5, none⟩ = some (.int .u8 p.zn) := cell_later HB1.out (HC.out 5 _ rfl)
  have c6 : w1.cell? ⟨g, o + a * 14 + 6, none⟩ = some (.int .i64 p.pl) := cell_later HB1.out (HC.out 6 _ rfl)
  have c7 : w1.cell? ⟨g, o + a * 14 + 7, none⟩ = some (.bool p.up) := cell_later HB1.out (HC.out 7 _ rfl)
  have c8 : w1.cell? ⟨g, o + a * 14 + 8, none⟩ = some (.bool p.lw) := cell_later HB1.out (HC.out 8 _ rfl)
  have c9 : w1.cell? ⟨g, o + a * 14 + 9, none⟩ = some (.int .i64 p.sc) := cell_later HB1.out (HC.out 9 _ rfl)
  have c10 : w1.cell? ⟨g, o + a * 14 + 10, none⟩ = some (.int .u8 p.us) := cell_later HB1.out (HC.out 10 _ rfl)
  have c11 : w1.cell? ⟨g, o + a * 14 + 11, none⟩ = some (.bool p.sk) := cell_later HB1.out (HC.out 11 _ rfl)
  have c12 : w1.cell? ⟨g, o + a * 14 + 12, none⟩ = some (.bool p.tu) := cell_later HB1.out (HC.out 12 _ rfl)
  have c13 : w1.cell? ⟨g, o + a * 14 + 13, none⟩ = some (.int .i64 p.bo) := cell_later HB1.out (HC.out 13 _ rfl)
  simp only [pcV] at hrd
  go_wp2_with fail
  (with_reducible refine (hrd.out _).mono ?_)
  rintro e w2 ⟨rfl, b2⟩
  have HB2 := Lib.hid (HB1.out.trans (b2.mono HB1.out.size))
  have HX2 := Lib.hid ((b2.block _ (heap_lt HX1.out)).trans HX1.out)
  have HR2 := Lib.hid ((b2.block _ (heap_lt HR1.out)).trans HR1.out)
  have HH2 := Lib.hid ((b2.block _ (heap_lt HH1.out)).trans HH1.out)
  clear b2 y1 c0 c1 c2 c3 c4 c5 c6 c7 c8 c9 c10 c11 c12 c13 hlx1
  have y0 := cell_blk (i := 0) HX2.out
  have y1 := cell_blk (i := 1) HX2.out
  have y2 := cell_blk (i := 2) HX2.out
  have y3 := cell_blk (i := 3) HX2.out
  have y4 := cell_blk (i := 4) HX2.out
  have y5 := cell_blk (i := 5) HX2.out
  have y6 := cell_blk (i := 6) HX2.out
  have y7 := cell_blk (i := 7) HX2.out
  have y8 := cell_blk (i := 8) HX2.out
  have y9 := cell_blk (i := 9) HX2.out
  simp at y0 y1 y2 y3 y4 y5 y6 y7 y8 y9
  have hlx2 := heap_lt HX2.out
  have c4 : w2.cell? ⟨g, o + a * 14 + 4, none⟩ = some (.int .u8 p.hs) := cell_later HB2.out (HC.out 4 _ rfl)
  rw [HP.out] at c4
  go_wp2_with fail
  (with_reducible refine (hf.out _ HB2.out).mono ?_)
  rintro e w3 ⟨rfl, b3⟩
  have HB3 := Lib.hid (HB2.out.trans (b3.mono HB2.out.size))
  have HX3 := Lib.hid ((b3.block _ (heap_lt HX2.out)).trans HX2.out)
  have HR3 := Lib.hid ((b3.block _ (heap_lt HR2.out)).trans HR2.out)
  have HH3 := Lib.hid ((b3.block _ (heap_lt HH2.out)).trans HH2.out)
  clear b3 y0 y1 y2 y3 y4 y5 y6 y7 y8 y9 c4 hlx2
  have y0 := cell_blk (i := 0) HX3.out
  have y1 := cell_blk (i := 1) HX3.out
  have y2 := cell_blk (i := 2) HX3.out
  have y3 := cell_blk (i := 3) HX3.out
  have y4 := cell_blk (i := 4) HX3.out
  have y5 := cell_blk (i := 5) HX3.out
  have y6 := cell_blk (i := 6) HX3.out
  have y7 := cell_blk (i := 7) HX3.out
  have y8 := cell_blk (i := 8) HX3.out
  have y9 := cell_blk (i := 9) HX3.out
  simp at y0 y1 y2 y3 y4 y5 y6 y7 y8 y9
  have hlx3 := heap_lt HX3.out
  have hg3 : g < w3.heap.size := Nat.lt_of_lt_of_le hg HB3.out.size
  have e0 : w3.cell? ⟨g, o + d * 14, none⟩ = some (.int .i64 q.df) := cell_later HB3.out (HD.out 0 _ rfl)
  have e1 : w3.cell? ⟨g, o + d * 14 + 1, none⟩ = some (.int .i64 q.ak) := cell_later HB3.out (HD.out 1 _ rfl)
  have e2 : w3.cell? ⟨g, o + d * 14 + 2, none⟩ = some (.int .i64 q.gd) := cell_later HB3.out (HD.out 2 _ rfl)
  have e3 : w3.cell? ⟨g, o + d * 14 + 3, none⟩ = some (.int .u8 q.ow) := cell_later HB3.out (HD.out 3 _ rfl)
  have e4 : w3.cell? ⟨g, o + d * 14 + 4, none⟩ = some (.int .u8 q.hs) := cell_later HB3.out (HD.out 4 _ rfl)
  have e5 : w3.cell? ⟨g, o + d * 14 + 5, none⟩ = some (.int .u8 q.zn) := cell_later HB3.out (HD.out 5 _ rfl)
  have e6 : w3.cell? ⟨g, o + d * 14 + 6, none⟩ = some (.int .i64 q.pl) := cell_later HB3.out (HD.out 6 _ rfl)
  have e7 : w3.cell? ⟨g, o + d * 14 + 7, none⟩ = some (.bool q.up) := cell_later HB3.out (HD.out 7 _ rfl)
  have e8 : w3.cell? ⟨g, o + d * 14 + 8, none⟩ = some (.bool q.lw) := cell_later HB3.out (HD.out 8 _ rfl)
  have e9 : w3.cell? ⟨g, o + d * 14 + 9, none⟩ = some (.int .i64 q.sc) := cell_later HB3.out (HD.out 9 _ rfl)
  have e10 : w3.cell? ⟨g, o + d * 14 + 10, none⟩ = some (.int .u8 q.us) := cell_later HB3.out (HD.out 10 _ rfl)
  have e11 : w3.cell? ⟨g, o + d * 14 + 11, none⟩ = some (.bool q.sk) := cell_later HB3.out (HD.out 11 _ rfl)
  have e12 : w3.cell? ⟨g, o + d * 14 + 12, none⟩ = some (.bool q.tu) := cell_later HB3.out (HD.out 12 _ rfl)
  have e13 : w3.cell? ⟨g, o + d * 14 + 13, none⟩ = some (.int .i64 q.bo) := cell_later HB3.out (HD.out 13 _ rfl)
  rw [HLW.out] at e8
  obtain ⟨w4, hw4⟩ : ∃ w4, w4 = w3.alloc (.cells (pcV q).toArray 45) := ⟨_, rfl⟩
  have HR4 : Hid (w4.heap[w.heap.size + 1]? = some _) := Lib.hid (by rw [hw4]; exact heap_older HR3.out)
  have HH4 : Hid (w4.heap[w.heap.size + 1 + 1]? = some _) := Lib.hid (by rw [hw4]; exact heap_older HH3.out)
  have HB4 : Hid (Below w.heap.size w w4) := Lib.hid (by rw [hw4]; exact below_al HB3.out)
  have hls : w.heap.size + 1 + 1 < w3.heap.size := heap_lt HH3.out
  have HW4 := Lib.hid hw4
  clear hw4
  simp only [pcV] at HW4
  rw [HLW.out] at HW4
  go_wp2_with fail
  rw [← HW4.out]
  clear y0 y1 y2 y3 y4 y5 y6 y7 y8 y9 e0 e1 e2 e3 e4 e5 e6 e7 e8 e9 e10 e11 e12 e13 hlx3
  (with_reducible refine (hfd.out _ HB4.out).mono ?_)
  rintro e w5 ⟨rfl, b5⟩
  have HB5 := Lib.hid (HB4.out.trans (b5.mono HB4.out.size))
  have HR5 := Lib.hid ((b5.block _ (heap_lt HR4.out)).trans HR4.out)
  have HH5 := Lib.hid ((b5.block _ (heap_lt HH4.out)).trans HH4.out)
  have hls5 : w.heap.size + 1 + 1 < w5.heap.size := heap_lt HH5.out
  clear b5
  have hlh5 := heap_lt HH5.out
  have z0 : w5.cell? ⟨w.heap.size + 1 + 1, 0, none⟩ = some (.int .i64 0) := cell_blk HH5.out
  have z1 : w5.cell? ⟨w.heap.size + 1 + 1, 1, none⟩ = some (.int .i64 0) := cell_blk HH5.out
  have hlr5 := heap_lt HR5.out
  have r0 : w5.cell? ⟨w.heap.size + 1, 0, none⟩ = some (.int .i64 0) := cell_blk HR5.out
  have r1 : w5.cell? ⟨w.heap.size + 1, 1, none⟩ = some (.int .i64 0) := cell_blk HR5.out
  have g0 := free_blk (i := 0) HH5.out
  have g1 := free_blk (i := 1) HH5.out
  have f0 := free_blk (i := 0) HR5.out
  have f1 := free_blk (i := 1) HR5.out
  go_wp2_with fail
  refine bodyPost_ret (results_cell_slot2 rfl _ _ _ (w.heap.size + 1) _ _ _ _ _ rfl (by (repeat (with_reducible refine heap_older ?_)); refine two_set1 (a0 := .int .i64 (0)) (a1 := .int .i64 0) (t := 24) _ ?_; refine two_set0 (a0 := .int .i64 0) (a1 := .int .i64 0) (t := 24) _ ?_; (repeat (first | (with_reducible exact HR5.out) | (with_reducible refine heap_older ?_) | (refine (heap_set_far (by show _ ≠ _; dsimp only; omega) _).trans ?_)))) Try.underlying24 (by kernel_rfl)) rfl ?_
  exact ⟨⟨_, rfl, (IntsOwn.one (by have := HB5.out.size; first | omega | (simp [World.setCell]; omega)) (by repeat (first | (with_reducible exact heap_alloc_new _ _) | (exact heap_newer _ _ _ (by simp [World.setCell])) | (with_reducible refine heap_older ?_) | (refine (heap_set_far (by show _ ≠ _; dsimp only; first | omega | (simp [World.setCell]; omega)) _).trans ?_))))⟩, (by repeat (first | (with_reducible exact HB5.out) | (with_reducible refine below_al ?_) | (refine Below.setCell ?_ (by show _ ≤ _; dsimp only; omega) _)))⟩

set_option maxHeartbeats 16000000 in
set_option maxRecDepth 100000 in
theorem rout_high1_gt (t : Tb) (a d : Nat) (A B D : Int) (p q : Pc) (w : World) (hm : ∀ W, Below w.heap.size w W → Calls Try.prog 17 #[.agg t.row] W fun e w' => e = .returned (.bool true) ∧ Below W.heap.size W w') (hpa : a < t.np ∧ ∃ g o, t.qp = some ⟨g, o, none⟩ ∧ g < w.heap.size ∧ ∀ (j : Nat) (u : Value), (pcV p)[j]? = some u → w.cell? ⟨g, o + a * 14 + j, none⟩ = some u) (hat : attB p = true) (h3 : ¬ (d : Int) < -1) (h4 : ¬ (d : Int) ≥ (t.np : Int)) (hA : 0 ≤ A ∧ A ≤ 99999) (hf : ∀ W, Below w.heap.size w W → Calls Try.prog 16 #[.agg t.row, .int .i64 a] W fun e w' => e = .returned (.int .i64 A) ∧ Below W.heap.size W w') (hpd : d < t.np ∧ ∃ g o, t.qp = some ⟨g, o, none⟩ ∧ g < w.heap.size ∧ ∀ (j : Nat) (u : Value), (pcV q)[j]? = some u → w.cell? ⟨g, o + d * 14 + j, none⟩ = some u) (hz : q.zn = 2) (hh : p.hs = 1) (hk : q.hs = 0) (hlw : q.lw = false) (hB : 0 ≤ B ∧ B ≤ 99999) (hD : D = A - B) (hc : A > B) (hfd : ∀ W, Below w.heap.size w W → Calls Try.prog 16 #[.agg t.row, .int .i64 d] W fun e w' => e = .returned (.int .i64 B) ∧ Below W.heap.size W w') :
    Calls Try.prog 10 #[.agg t.row, .int .i64 a, .int .i64 d] w (OutEnds ((((D, 0), [(d : Int)]) : FO)) 0 w) := by
  have HM := Lib.hid hm
  clear hm
  obtain ⟨hal, g, o, hq, hg, hc⟩ := hpa
  have HC := Lib.hid hc
  have hrd := Lib.hid fun W => rready_any p W
  have i0 : (0 : Int) ≤ (a : Int) := by omega
  have i1 : (a : Int) < (t.np : Int) := by omega
  have i2 : ¬ (a : Int) < 0 := by omega
  have i3 : ¬ (a : Int) ≥ (t.np : Int) := by omega
  clear hc
  have hf := Lib.hid hf
  rw [hat] at hrd
  obtain ⟨hdl, g', o', hq', hg', hd⟩ := hpd
  rw [hq, Option.some.injEq, Addr.mk.injEq] at hq'
  obtain ⟨rfl, rfl, -⟩ := hq'
  have HD := Lib.hid hd
  have j0 : (0 : Int) ≤ (d : Int) := by omega
  have j1 : (d : Int) < (t.np : Int) := by omega
  have dn : ((d : Int) == -1) = false := by first | (simp; done) | (simp; omega)
  have uw0 : IntKind.u8.wrap 0 = 0 := by kernel_rfl
  have uw1 : IntKind.u8.wrap 1 = 1 := by kernel_rfl
  clear hd
  have t1 : ((q.zn : Int) != 2) = false := by simp [hz]
  have t2 : ((q.hs : Int) == 1) = false := by rw [hk]; decide
  have m1 : max (IntKind.i64.wrap (B - A)) 0 = 0 := by rw [IntWalk.i64_in _ (by omega)]; omega
  have m1w : max (wrap64 (B - A)) 0 = 0 := by unfold wrap64; omega
  have m2 : max (IntKind.i64.wrap (A - B)) 0 = D := by rw [IntWalk.i64_in _ (by omega)]; omega
  have m2w : max (wrap64 (A - B)) 0 = D := by unfold wrap64; omega
  have hfd := Lib.hid hfd
  have cg : A > B := hc
  have HP := Lib.hid hh
  have HK := Lib.hid hk
  have HLW := Lib.hid hlw
  clear hz hh hk hlw hc hD hB hA
  obtain ⟨w0, hw0⟩ : ∃ w0, w0 = ((w.alloc (.cells t.row 28)).alloc (.cells #[.int .i64 0, .int .i64 0] 24)).alloc (.cells #[.int .i64 0, .int .i64 0] 24) := ⟨_, rfl⟩
  have hb0 : Below w.heap.size w w0 := by rw [hw0]; exact below_al (below_al (below_al (Below.refl _ _)))
  have hx0 : w0.heap[w.heap.size]? = some (.cells t.row 28 (0, 0)) := by rw [hw0]; exact heap_older (heap_older (heap_alloc_new _ _))
  have hr0 : w0.heap[w.heap.size + 1]? = some (.cells #[.int .i64 0, .int .i64 0] 24 (0, 0)) := by rw [hw0]; exact heap_older (heap_newer _ _ _ (by simp))
  have hh0 : w0.heap[w.heap.size + 1 + 1]? = some (.cells #[.int .i64 0, .int .i64 0] 24 (0, 0)) := by rw [hw0]; exact heap_newer _ _ _ (by simp)
  have HB0 := Lib.hid hb0
  have HX0 := Lib.hid hx0
  have HR0 := Lib.hid hr0
  have HH0 := Lib.hid hh0
  have HW0 := Lib.hid hw0
  clear hb0 hx0 hr0 hh0 hw0
  simp only [Tb.row] at *
  rw [hq] at HM hf hfd HX0 HW0 ⊢
  clear hq
  go_enter Try.func10, Try.ntmps10
  go_wp2_with fail
  rw [← HW0.out]
  (with_reducible refine (HM.out _ HB0.out).mono ?_)
  rintro e w1 ⟨rfl, b1⟩
  have HB1 := Lib.hid (HB0.out.trans (b1.mono HB0.out.size))
  have HX1 := Lib.hid ((b1.block _ (heap_lt HX0.out)).trans HX0.out)
  have HR1 := Lib.hid ((b1.block _ (heap_lt HR0.out)).trans HR0.out)
  have HH1 := Lib.hid ((b1.block _ (heap_lt HH0.out)).trans HH0.out)
  clear b1
  have y1 := cell_blk (i := 1) HX1.out
  simp at y1
  have hlx1 := heap_lt HX1.out
  have c0 : w1.cell? ⟨g, o + a * 14, none⟩ = some (.int .i64 p.df) := cell_later HB1.out (HC.out 0 _ rfl)
  have c1 : w1.cell? ⟨g, o + a * 14 + 1, none⟩ = some (.int .i64 p.ak) := cell_later HB1.out (HC.out 1 _ rfl)
  have c2 : w1.cell? ⟨g, o + a * 14 + 2, none⟩ = some (.int .i64 p.gd) := cell_later HB1.out (HC.out 2 _ rfl)
  have c3 : w1.cell? ⟨g, o + a * 14 + 3, none⟩ = some (.int .u8 p.ow) := cell_later HB1.out (HC.out 3 _ rfl)
  have c4 : w1.cell? ⟨g, o + a * 14 + 4, none⟩ = some (.int .u8 p.hs) := cell_later HB1.out (HC.out 4 _ rfl)
  have c5 : w1.cell? ⟨g, o + a * 14 + 5, none⟩ = some (.int .u8 p.zn) := cell_later HB1.out (HC.out 5 _ rfl)
  have c6 : w1.cell? ⟨g, o + a * 14 + 6, none⟩ = some (.int .i64 p.pl) := cell_later HB1.out (HC.out 6 _ rfl)
  have c7 : w1.cell? ⟨g, o + a * 14 + 7, none⟩ = some (.bool p.up) := cell_later HB1.out (HC.out 7 _ rfl)
  have c8 : w1.cell? ⟨g, o + a * 14 + 8, none⟩ = some (.bool p.lw) := cell_later HB1.out (HC.out 8 _ rfl)
  have c9 : w1.cell? ⟨g, o + a * 14 + 9, none⟩ = some (.int .i64 p.sc) := cell_later HB1.out (HC.out 9 _ rfl)
  have c10 : w1.cell? ⟨g, o + a * 14 + 10, none⟩ = some (.int .u8 p.us) := cell_later HB1.out (HC.out 10 _ rfl)
  have c11 : w1.cell? ⟨g, o + a * 14 + 11, none⟩ = some (.bool p.sk) := cell_later HB1.out (HC.out 11 _ rfl)
  have c12 : w1.cell? ⟨g, o + a * 14 + 12, none⟩ = some (.bool p.tu) := cell_later HB1.out (HC.out 12 _ rfl)
  have c13 : w1.cell? ⟨g, o + a * 14 + 13, none⟩ = some (.int .i64 p.bo) := cell_later HB1.out (HC.out 13 _ rfl)
  simp only [pcV] at hrd
  go_wp2_with fail
  (with_reducible refine (hrd.out _).mono ?_)
  rintro e w2 ⟨rfl, b2⟩
  have HB2 := Lib.hid (HB1.out.trans (b2.mono HB1.out.size))
  have HX2 := Lib.hid ((b2.block _ (heap_lt HX1.out)).trans HX1.out)
  have HR2 := Lib.hid ((b2.block _ (heap_lt HR1.out)).trans HR1.out)
  have HH2 := Lib.hid ((b2.block _ (heap_lt HH1.out)).trans HH1.out)
  clear b2 y1 c0 c1 c2 c3 c4 c5 c6 c7 c8 c9 c10 c11 c12 c13 hlx1
  have y0 := cell_blk (i := 0) HX2.out
  have y1 := cell_blk (i := 1) HX2.out
  have y2 := cell_blk (i := 2) HX2.out
  have y3 := cell_blk (i := 3) HX2.out
  have y4 := cell_blk (i := 4) HX2.out
  have y5 := cell_blk (i := 5) HX2.out
  have y6 := cell_blk (i := 6) HX2.out
  have y7 := cell_blk (i := 7) HX2.out
  have y8 := cell_blk (i := 8) HX2.out
  have y9 := cell_blk (i := 9) HX2.out
  simp at y0 y1 y2 y3 y4 y5 y6 y7 y8 y9
  have hlx2 := heap_lt HX2.out
  have c4 : w2.cell? ⟨g, o + a * 14 + 4, none⟩ = some (.int .u8 p.hs) := cell_later HB2.out (HC.out 4 _ rfl)
  rw [HP.out] at c4
  go_wp2_with fail
  (with_reducible refine (hf.out _ HB2.out).mono ?_)
  rintro e w3 ⟨rfl, b3⟩
  have HB3 := Lib.hid (HB2.out.trans (b3.mono HB2.out.size))
  have HX3 := Lib.hid ((b3.block _ (heap_lt HX2.out)).trans HX2.out)
  have HR3 := Lib.hid ((b3.block _ (heap_lt HR2.out)).trans HR2.out)
  have HH3 := Lib.hid ((b3.block _ (heap_lt HH2.out)).trans HH2.out)
  clear b3 y0 y1 y2 y3 y4 y5 y6 y7 y8 y9 c4 hlx2
  have y0 := cell_blk (i := 0) HX3.out
  have y1 := cell_blk (i := 1) HX3.out
  have y2 := cell_blk (i := 2) HX3.out
  have y3 := cell_blk (i := 3) HX3.out
  have y4 := cell_blk (i := 4) HX3.out
  have y5 := cell_blk (i := 5) HX3.out
  have y6 := cell_blk (i := 6) HX3.out
  have y7 := cell_blk (i := 7) HX3.out
  have y8 := cell_blk (i := 8) HX3.out
  have y9 := cell_blk (i := 9) HX3.out
  simp at y0 y1 y2 y3 y4 y5 y6 y7 y8 y9
  have hlx3 := heap_lt HX3.out
  have hg3 : g < w3.heap.size := Nat.lt_of_lt_of_le hg HB3.out.size
  have e0 : w3.cell? ⟨g, o + d * 14, none⟩ = some (.int .i64 q.df) := cell_later HB3.out (HD.out 0 _ rfl)
  have e1 : w3.cell? ⟨g, o + d * 14 + 1, none⟩ = some (.int .i64 q.ak) := cell_later HB3.out (HD.out 1 _ rfl)
  have e2 : w3.cell? ⟨g, o + d * 14 + 2, none⟩ = some (.int .i64 q.gd) := cell_later HB3.out (HD.out 2 _ rfl)
  have e3 : w3.cell? ⟨g, o + d * 14 + 3, none⟩ = some (.int .u8 q.ow) := cell_later HB3.out (HD.out 3 _ rfl)
  have e4 : w3.cell? ⟨g, o + d * 14 + 4, none⟩ = some (.int .u8 q.hs) := cell_later HB3.out (HD.out 4 _ rfl)
  have e5 : w3.cell? ⟨g, o + d * 14 + 5, none⟩ = some (.int .u8 q.zn) := cell_later HB3.out (HD.out 5 _ rfl)
  have e6 : w3.cell? ⟨g, o + d * 14 + 6, none⟩ = some (.int .i64 q.pl) := cell_later HB3.out (HD.out 6 _ rfl)
  have e7 : w3.cell? ⟨g, o + d * 14 + 7, none⟩ = some (.bool q.up) := cell_later HB3.out (HD.out 7 _ rfl)
  have e8 : w3.cell? ⟨g, o + d * 14 + 8, none⟩ = some (.bool q.lw) := cell_later HB3.out (HD.out 8 _ rfl)
  have e9 : w3.cell? ⟨g, o + d * 14 + 9, none⟩ = some (.int .i64 q.sc) := cell_later HB3.out (HD.out 9 _ rfl)
  have e10 : w3.cell? ⟨g, o + d * 14 + 10, none⟩ = some (.int .u8 q.us) := cell_later HB3.out (HD.out 10 _ rfl)
  have e11 : w3.cell? ⟨g, o + d * 14 + 11, none⟩ = some (.bool q.sk) := cell_later HB3.out (HD.out 11 _ rfl)
  have e12 : w3.cell? ⟨g, o + d * 14 + 12, none⟩ = some (.bool q.tu) := cell_later HB3.out (HD.out 12 _ rfl)
  have e13 : w3.cell? ⟨g, o + d * 14 + 13, none⟩ = some (.int .i64 q.bo) := cell_later HB3.out (HD.out 13 _ rfl)
  rw [HLW.out] at e8
  obtain ⟨w4, hw4⟩ : ∃ w4, w4 = w3.alloc (.cells (pcV q).toArray 45) := ⟨_, rfl⟩
  have HR4 : Hid (w4.heap[w.heap.size + 1]? = some _) := Lib.hid (by rw [hw4]; exact heap_older HR3.out)
  have HH4 : Hid (w4.heap[w.heap.size + 1 + 1]? = some _) := Lib.hid (by rw [hw4]; exact heap_older HH3.out)
  have HB4 : Hid (Below w.heap.size w w4) := Lib.hid (by rw [hw4]; exact below_al HB3.out)
  have hls : w.heap.size + 1 + 1 < w3.heap.size := heap_lt HH3.out
  have HW4 := Lib.hid hw4
  clear hw4
  simp only [pcV] at HW4
  rw [HLW.out] at HW4
  go_wp2_with fail
  rw [← HW4.out]
  clear y0 y1 y2 y3 y4 y5 y6 y7 y8 y9 e0 e1 e2 e3 e4 e5 e6 e7 e8 e9 e10 e11 e12 e13 hlx3
  (with_reducible refine (hfd.out _ HB4.out).mono ?_)
  rintro e w5 ⟨rfl, b5⟩
  have HB5 := Lib.hid (HB4.out.trans (b5.mono HB4.out.size))
  have HR5 := Lib.hid ((b5.block _ (heap_lt HR4.out)).trans HR4.out)
  have HH5 := Lib.hid ((b5.block _ (heap_lt HH4.out)).trans HH4.out)
  have hls5 : w.heap.size + 1 + 1 < w5.heap.size := heap_lt HH5.out
  clear b5
  have hlh5 := heap_lt HH5.out
  have z0 : w5.cell? ⟨w.heap.size + 1 + 1, 0, none⟩ = some (.int .i64 0) := cell_blk HH5.out
  have z1 : w5.cell? ⟨w.heap.size + 1 + 1, 1, none⟩ = some (.int .i64 0) := cell_blk HH5.out
  have hlr5 := heap_lt HR5.out
  have r0 : w5.cell? ⟨w.heap.size + 1, 0, none⟩ = some (.int .i64 0) := cell_blk HR5.out
  have r1 : w5.cell? ⟨w.heap.size + 1, 1, none⟩ = some (.int .i64 0) := cell_blk HR5.out
  have g0 := free_blk (i := 0) HH5.out
  have g1 := free_blk (i := 1) HH5.out
  have f0 := free_blk (i := 0) HR5.out
  have f1 := free_blk (i := 1) HR5.out
  go_wp2_with fail
  refine bodyPost_ret (results_cell_slot2 rfl _ _ _ (w.heap.size + 1) _ _ _ _ _ rfl (by (repeat (with_reducible refine heap_older ?_)); refine two_set1 (a0 := .int .i64 (D)) (a1 := .int .i64 0) (t := 24) _ ?_; refine two_set0 (a0 := .int .i64 0) (a1 := .int .i64 0) (t := 24) _ ?_; (repeat (first | (with_reducible exact HR5.out) | (with_reducible refine heap_older ?_) | (refine (heap_set_far (by show _ ≠ _; dsimp only; omega) _).trans ?_)))) Try.underlying24 (by kernel_rfl)) rfl ?_
  exact ⟨⟨_, rfl, (IntsOwn.one (by have := HB5.out.size; first | omega | (simp [World.setCell]; omega)) (by repeat (first | (with_reducible exact heap_alloc_new _ _) | (exact heap_newer _ _ _ (by simp [World.setCell])) | (with_reducible refine heap_older ?_) | (refine (heap_set_far (by show _ ≠ _; dsimp only; first | omega | (simp [World.setCell]; omega)) _).trans ?_))))⟩, (by repeat (first | (with_reducible exact HB5.out) | (with_reducible refine below_al ?_) | (refine Below.setCell ?_ (by show _ ≤ _; dsimp only; omega) _)))⟩

set_option maxHeartbeats 16000000 in
set_option maxRecDepth 100000 in
theorem rout_high1_eqp (t : Tb) (a d : Nat) (A B D : Int) (p q : Pc) (w : World) (hm : ∀ W, Below w.heap.size w W → Calls Try.prog 17 #[.agg t.row] W fun e w' => e = .returned (.bool true) ∧ Below W.heap.size W w') (hpa : a < t.np ∧ ∃ g o, t.qp = some ⟨g, o, none⟩ ∧ g < w.heap.size ∧ ∀ (j : Nat) (u : Value), (pcV p)[j]? = some u → w.cell? ⟨g, o + a * 14 + j, none⟩ = some u) (hat : attB p = true) (h3 : ¬ (d : Int) < -1) (h4 : ¬ (d : Int) ≥ (t.np : Int)) (hA : 0 ≤ A ∧ A ≤ 99999) (hf : ∀ W, Below w.heap.size w W → Calls Try.prog 16 #[.agg t.row, .int .i64 a] W fun e w' => e = .returned (.int .i64 A) ∧ Below W.heap.size W w') (hpd : d < t.np ∧ ∃ g o, t.qp = some ⟨g, o, none⟩ ∧ g < w.heap.size ∧ ∀ (j : Nat) (u : Value), (pcV q)[j]? = some u → w.cell? ⟨g, o + d * 14 + j, none⟩ = some u) (hz : q.zn = 2) (hh : p.hs = 1) (hk : q.hs = 0) (hlw : q.lw = false) (hB : 0 ≤ B ∧ B ≤ 99999) (hc : A = B) (hfd : ∀ W, Below w.heap.size w W → Calls Try.prog 16 #[.agg t.row, .int .i64 d] W fun e w' => e = .returned (.int .i64 B) ∧ Below W.heap.size W w') (hp : A > 0) :
    Calls Try.prog 10 #[.agg t.row, .int .i64 a, .int .i64 d] w (OutEnds ((((0, 0), [(a : Int), (d : Int)]) : FO)) 0 w) := by
  have HM := Lib.hid hm
  clear hm
  obtain ⟨hal, g, o, hq, hg, hc⟩ := hpa
  have HC := Lib.hid hc
  have hrd := Lib.hid fun W => rready_any p W
  have i0 : (0 : Int) ≤ (a : Int) := by omega
  have i1 : (a : Int) < (t.np : Int) := by omega
  have i2 : ¬ (a : Int) < 0 := by omega
  have i3 : ¬ (a : Int) ≥ (t.np : Int) := by omega
  clear hc
  have hf := Lib.hid hf
  rw [hat] at hrd
  obtain ⟨hdl, g', o', hq', hg', hd⟩ := hpd
  rw [hq, Option.some.injEq, Addr.mk.injEq] at hq'
  obtain ⟨rfl, rfl, -⟩ := hq'
  have HD := Lib.hid hd
  have j0 : (0 : Int) ≤ (d : Int) := by omega
  have j1 : (d : Int) < (t.np : Int) := by omega
  have dn : ((d : Int) == -1) = false := by first | (simp; done) | (simp; omega)
  have uw0 : IntKind.u8.wrap 0 = 0 := by kernel_rfl
  have uw1 : IntKind.u8.wrap 1 = 1 := by kernel_rfl
  clear hd
  have t1 : ((q.zn : Int) != 2) = false := by simp [hz]
  have t2 : ((q.hs : Int) == 1) = false := by rw [hk]; decide
  have m1 : max (IntKind.i64.wrap (B - A)) 0 = 0 := by rw [IntWalk.i64_in _ (by omega)]; omega
  have m1w : max (wrap64 (B - A)) 0 = 0 := by unfold wrap64; omega
  have m2 : max (IntKind.i64.wrap (A - B)) 0 = 0 := by rw [IntWalk.i64_in _ (by omega)]; omega
  have m2w : max (wrap64 (A - B)) 0 = 0 := by unfold wrap64; omega
  have hfd := Lib.hid hfd
  have m1v : max (B - A) 0 = 0 := by omega
  have m2v : max (A - B) 0 = 0 := by omega
  have cg : ¬ A > B := by omega
  have cl : ¬ A < B := by omega
  have cz : (A == 0) = false := by simp; omega
  have HP := Lib.hid hh
  have HK := Lib.hid hk
  have HLW := Lib.hid hlw
  clear hz hh hk hlw hc hB hA hp
  obtain ⟨w0, hw0⟩ : ∃ w0, w0 = ((w.alloc (.cells t.row 28)).alloc (.cells #[.int .i64 0, .int .i64 0] 24)).alloc (.cells #[.int .i64 0, .int .i64 0] 24) := ⟨_, rfl⟩
  have hb0 : Below w.heap.size w w0 := by rw [hw0]; exact below_al (below_al (below_al (Below.refl _ _)))
  have hx0 : w0.heap[w.heap.size]? = some (.cells t.row 28 (0, 0)) := by rw [hw0]; exact heap_older (heap_older (heap_alloc_new _ _))
  have hr0 : w0.heap[w.heap.size + 1]? = some (.cells #[.int .i64 0, .int .i64 0] 24 (0, 0)) := by rw [hw0]; exact heap_older (heap_newer _ _ _ (by simp))
  have hh0 : w0.heap[w.heap.size + 1 + 1]? = some (.cells #[.int .i64 0, .int .i64 0] 24 (0, 0)) := by rw [hw0]; exact heap_newer _ _ _ (by simp)
  have HB0 := Lib.hid hb0
  have HX0 := Lib.hid hx0
  have HR0 := Lib.hid hr0
  have HH0 := Lib.hid hh0
  have HW0 := Lib.hid hw0
  clear hb0 hx0 hr0 hh0 hw0
  simp only [Tb.row] at *
  rw [hq] at HM hf hfd HX0 HW0 ⊢
  clear hq
  go_enter Try.func10, Try.ntmps10
  go_wp2_with fail
  rw [← HW0.out]
  (with_reducible refine (HM.out _ HB0.out).mono ?_)
  rintro e w1 ⟨rfl, b1⟩
  have HB1 := Lib.hid (HB0.out.trans (b1.mono HB0.out.size))
  have HX1 := Lib.hid ((b1.block _ (heap_lt HX0.out)).trans HX0.out)
  have HR1 := Lib.hid ((b1.block _ (heap_lt HR0.out)).trans HR0.out)
  have HH1 := Lib.hid ((b1.block _ (heap_lt HH0.out)).trans HH0.out)
  clear b1
  have y1 := cell_blk (i := 1) HX1.out
  simp at y1
  have hlx1 := heap_lt HX1.out
  have c0 : w1.cell? ⟨g, o + a * 14, none⟩ = some (.int .i64 p.df) := cell_later HB1.out (HC.out 0 _ rfl)
  have c1 : w1.cell? ⟨g, o + a * 14 + 1, none⟩ = some (.int .i64 p.ak) := cell_later HB1.out (HC.out 1 _ rfl)
  have c2 : w1.cell? ⟨g, o + a * 14 + 2, none⟩ = some (.int .i64 p.gd) := cell_later HB1.out (HC.out 2 _ rfl)
  have c3 : w1.cell? ⟨g, o + a * 14 + 3, none⟩ = some (.int .u8 p.ow) := cell_later HB1.out (HC.out 3 _ rfl)
  have c4 : w1.cell? ⟨g, o + a * 14 + 4, none⟩ = some (.int .u8 p.hs) := cell_later HB1.out (HC.out 4 _ rfl)
  have c5 : w1.cell? ⟨g, o + a * 14 + 5, none⟩ = some (.int .u8 p.zn) := cell_later HB1.out (HC.out 5 _ rfl)
  have c6 : w1.cell? ⟨g, o + a * 14 + 6, none⟩ = some (.int .i64 p.pl) := cell_later HB1.out (HC.out 6 _ rfl)
  have c7 : w1.cell? ⟨g, o + a * 14 + 7, none⟩ = some (.bool p.up) := cell_later HB1.out (HC.out 7 _ rfl)
  have c8 : w1.cell? ⟨g, o + a * 14 + 8, none⟩ = some (.bool p.lw) := cell_later HB1.out (HC.out 8 _ rfl)
  have c9 : w1.cell? ⟨g, o + a * 14 + 9, none⟩ = some (.int .i64 p.sc) := cell_later HB1.out (HC.out 9 _ rfl)
  have c10 : w1.cell? ⟨g, o + a * 14 + 10, none⟩ = some (.int .u8 p.us) := cell_later HB1.out (HC.out 10 _ rfl)
  have c11 : w1.cell? ⟨g, o + a * 14 + 11, none⟩ = some (.bool p.sk) := cell_later HB1.out (HC.out 11 _ rfl)
  have c12 : w1.cell? ⟨g, o + a * 14 + 12, none⟩ = some (.bool p.tu) := cell_later HB1.out (HC.out 12 _ rfl)
  have c13 : w1.cell? ⟨g, o + a * 14 + 13, none⟩ = some (.int .i64 p.bo) := cell_later HB1.out (HC.out 13 _ rfl)
  simp only [pcV] at hrd
  go_wp2_with fail
  (with_reducible refine (hrd.out _).mono ?_)
  rintro e w2 ⟨rfl, b2⟩
  have HB2 := Lib.hid (HB1.out.trans (b2.mono HB1.out.size))
  have HX2 := Lib.hid ((b2.block _ (heap_lt HX1.out)).trans HX1.out)
  have HR2 := Lib.hid ((b2.block _ (heap_lt HR1.out)).trans HR1.out)
  have HH2 := Lib.hid ((b2.block _ (heap_lt HH1.out)).trans HH1.out)
  clear b2 y1 c0 c1 c2 c3 c4 c5 c6 c7 c8 c9 c10 c11 c12 c13 hlx1
  have y0 := cell_blk (i := 0) HX2.out
  have y1 := cell_blk (i := 1) HX2.out
  have y2 := cell_blk (i := 2) HX2.out
  have y3 := cell_blk (i := 3) HX2.out
  have y4 := cell_blk (i := 4) HX2.out
  have y5 := cell_blk (i := 5) HX2.out
  have y6 := cell_blk (i := 6) HX2.out
  have y7 := cell_blk (i := 7) HX2.out
  have y8 := cell_blk (i := 8) HX2.out
  have y9 := cell_blk (i := 9) HX2.out
  simp at y0 y1 y2 y3 y4 y5 y6 y7 y8 y9
  have hlx2 := heap_lt HX2.out
  have c4 : w2.cell? ⟨g, o + a * 14 + 4, none⟩ = some (.int .u8 p.hs) := cell_later HB2.out (HC.out 4 _ rfl)
  rw [HP.out] at c4
  go_wp2_with fail
  (with_reducible refine (hf.out _ HB2.out).mono ?_)
  rintro e w3 ⟨rfl, b3⟩
  have HB3 := Lib.hid (HB2.out.trans (b3.mono HB2.out.size))
  have HX3 := Lib.hid ((b3.block _ (heap_lt HX2.out)).trans HX2.out)
  have HR3 := Lib.hid ((b3.block _ (heap_lt HR2.out)).trans HR2.out)
  have HH3 := Lib.hid ((b3.block _ (heap_lt HH2.out)).trans HH2.out)
  clear b3 y0 y1 y2 y3 y4 y5 y6 y7 y8 y9 c4 hlx2
  have y0 := cell_blk (i := 0) HX3.out
  have y1 := cell_blk (i := 1) HX3.out
  have y2 := cell_blk (i := 2) HX3.out
  have y3 := cell_blk (i := 3) HX3.out
  have y4 := cell_blk (i := 4) HX3.out
  have y5 := cell_blk (i := 5) HX3.out
  have y6 := cell_blk (i := 6) HX3.out
  have y7 := cell_blk (i := 7) HX3.out
  have y8 := cell_blk (i := 8) HX3.out
  have y9 := cell_blk (i := 9) HX3.out
  simp at y0 y1 y2 y3 y4 y5 y6 y7 y8 y9
  have hlx3 := heap_lt HX3.out
  have hg3 : g < w3.heap.size := Nat.lt_of_lt_of_le hg HB3.out.size
  have e0 : w3.cell? ⟨g, o + d * 14, none⟩ = some (.int .i64 q.df) := cell_later HB3.out (HD.out 0 _ rfl)
  have e1 : w3.cell? ⟨g, o + d * 14 + 1, none⟩ = some (.int .i64 q.ak) := cell_later HB3.out (HD.out 1 _ rfl)
  have e2 : w3.cell? ⟨g, o + d * 14 + 2, none⟩ = some (.int .i64 q.gd) := cell_later HB3.out (HD.out 2 _ rfl)
  have e3 : w3.cell? ⟨g, o + d * 14 + 3, none⟩ = some (.int .u8 q.ow) := cell_later HB3.out (HD.out 3 _ rfl)
  have e4 : w3.cell? ⟨g, o + d * 14 + 4, none⟩ = some (.int .u8 q.hs) := cell_later HB3.out (HD.out 4 _ rfl)
  have e5 : w3.cell? ⟨g, o + d * 14 + 5, none⟩ = some (.int .u8 q.zn) := cell_later HB3.out (HD.out 5 _ rfl)
  have e6 : w3.cell? ⟨g, o + d * 14 + 6, none⟩ = some (.int .i64 q.pl) := cell_later HB3.out (HD.out 6 _ rfl)
  have e7 : w3.cell? ⟨g, o + d * 14 + 7, none⟩ = some (.bool q.up) := cell_later HB3.out (HD.out 7 _ rfl)
  have e8 : w3.cell? ⟨g, o + d * 14 + 8, none⟩ = some (.bool q.lw) := cell_later HB3.out (HD.out 8 _ rfl)
  have e9 : w3.cell? ⟨g, o + d * 14 + 9, none⟩ = some (.int .i64 q.sc) := cell_later HB3.out (HD.out 9 _ rfl)
  have e10 : w3.cell? ⟨g, o + d * 14 + 10, none⟩ = some (.int .u8 q.us) := cell_later HB3.out (HD.out 10 _ rfl)
  have e11 : w3.cell? ⟨g, o + d * 14 + 11, none⟩ = some (.bool q.sk) := cell_later HB3.out (HD.out 11 _ rfl)
  have e12 : w3.cell? ⟨g, o + d * 14 + 12, none⟩ = some (.bool q.tu) := cell_later HB3.out (HD.out 12 _ rfl)
  have e13 : w3.cell? ⟨g, o + d * 14 + 13, none⟩ = some (.int .i64 q.bo) := cell_later HB3.out (HD.out 13 _ rfl)
  rw [HLW.out] at e8
  obtain ⟨w4, hw4⟩ : ∃ w4, w4 = w3.alloc (.cells (pcV q).toArray 45) := ⟨_, rfl⟩
  have HR4 : Hid (w4.heap[w.heap.size + 1]? = some _) := Lib.hid (by rw [hw4]; exact heap_older HR3.out)
  have HH4 : Hid (w4.heap[w.heap.size + 1 + 1]? = some _) := Lib.hid (by rw [hw4]; exact heap_older HH3.out)
  have HB4 : Hid (Below w.heap.size w w4) := Lib.hid (by rw [hw4]; exact below_al HB3.out)
  have hls : w.heap.size + 1 + 1 < w3.heap.size := heap_lt HH3.out
  have HW4 := Lib.hid hw4
  clear hw4
  simp only [pcV] at HW4
  rw [HLW.out] at HW4
  go_wp2_with fail
  rw [← HW4.out]
  clear y0 y1 y2 y3 y4 y5 y6 y7 y8 y9 e0 e1 e2 e3 e4 e5 e6 e7 e8 e9 e10 e11 e12 e13 hlx3
  (with_reducible refine (hfd.out _ HB4.out).mono ?_)
  rintro e w5 ⟨rfl, b5⟩
  have HB5 := Lib.hid (HB4.out.trans (b5.mono HB4.out.size))
  have HR5 := Lib.hid ((b5.block _ (heap_lt HR4.out)).trans HR4.out)
  have HH5 := Lib.hid ((b5.block _ (heap_lt HH4.out)).trans HH4.out)
  have hls5 : w.heap.size + 1 + 1 < w5.heap.size := heap_lt HH5.out
  clear b5
  have hlh5 := heap_lt HH5.out
  have z0 : w5.cell? ⟨w.heap.size + 1 + 1, 0, none⟩ = some (.int .i64 0) := cell_blk HH5.out
  have z1 : w5.cell? ⟨w.heap.size + 1 + 1, 1, none⟩ = some (.int .i64 0) := cell_blk HH5.out
  have hlr5 := heap_lt HR5.out
  have r0 : w5.cell? ⟨w.heap.size + 1, 0, none⟩ = some (.int .i64 0) := cell_blk HR5.out
  have r1 : w5.cell? ⟨w.heap.size + 1, 1, none⟩ = some (.int .i64 0) := cell_blk HR5.out
  have g0 := free_blk (i := 0) HH5.out
  have g1 := free_blk (i := 1) HH5.out
  have f0 := free_blk (i := 0) HR5.out
  have f1 := free_blk (i := 1) HR5.out
  go_wp2_with fail
  refine bodyPost_ret (results_cell_slot2 rfl _ _ _ (w.heap.size + 1) _ _ _ _ _ rfl (by (repeat (with_reducible refine heap_older ?_)); refine two_set1 (a0 := .int .i64 (0)) (a1 := .int .i64 0) (t := 24) _ ?_; refine two_set0 (a0 := .int .i64 0) (a1 := .int .i64 0) (t := 24) _ ?_; (repeat (first | (with_reducible exact HR5.out) | (with_reducible refine heap_older ?_) | (refine (heap_set_far (by show _ ≠ _; dsimp only; omega) _).trans ?_)))) Try.underlying24 (by kernel_rfl)) rfl ?_
  exact ⟨⟨_, rfl, (IntsOwn.two (by have := HB5.out.size; first | omega | (simp [World.setCell]; omega)) (by repeat (first | (with_reducible exact heap_alloc_new _ _) | (exact heap_newer _ _ _ (by simp [World.setCell])) | (with_reducible refine heap_older ?_) | (refine (heap_set_far (by show _ ≠ _; dsimp only; first | omega | (simp [World.setCell]; omega)) _).trans ?_))))⟩, (by repeat (first | (with_reducible exact HB5.out) | (with_reducible refine below_al ?_) | (refine Below.setCell ?_ (by show _ ≤ _; dsimp only; omega) _)))⟩

set_option maxHeartbeats 16000000 in
set_option maxRecDepth 100000 in
theorem rout_high1_eqz (t : Tb) (a d : Nat) (A B D : Int) (p q : Pc) (w : World) (hm : ∀ W, Below w.heap.size w W → Calls Try.prog 17 #[.agg t.row] W fun e w' => e = .returned (.bool true) ∧ Below W.heap.size W w') (hpa : a < t.np ∧ ∃ g o, t.qp = some ⟨g, o, none⟩ ∧ g < w.heap.size ∧ ∀ (j : Nat) (u : Value), (pcV p)[j]? = some u → w.cell? ⟨g, o + a * 14 + j, none⟩ = some u) (hat : attB p = true) (h3 : ¬ (d : Int) < -1) (h4 : ¬ (d : Int) ≥ (t.np : Int)) (hA : 0 ≤ A ∧ A ≤ 99999) (hf : ∀ W, Below w.heap.size w W → Calls Try.prog 16 #[.agg t.row, .int .i64 a] W fun e w' => e = .returned (.int .i64 A) ∧ Below W.heap.size W w') (hpd : d < t.np ∧ ∃ g o, t.qp = some ⟨g, o, none⟩ ∧ g < w.heap.size ∧ ∀ (j : Nat) (u : Value), (pcV q)[j]? = some u → w.cell? ⟨g, o + d * 14 + j, none⟩ = some u) (hz : q.zn = 2) (hh : p.hs = 1) (hk : q.hs = 0) (hlw : q.lw = false) (hB : 0 ≤ B ∧ B ≤ 99999) (hc : A = B) (hfd : ∀ W, Below w.heap.size w W → Calls Try.prog 16 #[.agg t.row, .int .i64 d] W fun e w' => e = .returned (.int .i64 B) ∧ Below W.heap.size W w') (hp : ¬ A > 0) :
    Calls Try.prog 10 #[.agg t.row, .int .i64 a, .int .i64 d] w (OutEnds ((((0, 0), []) : FO)) 0 w) := by
  have HM := Lib.hid hm
  clear hm
  obtain ⟨hal, g, o, hq, hg, hc⟩ := hpa
  have HC := Lib.hid hc
  have hrd := Lib.hid fun W => rready_any p W
  have i0 : (0 : Int) ≤ (a : Int) := by omega
  have i1 : (a : Int) < (t.np : Int) := by omega
  have i2 : ¬ (a : Int) < 0 := by omega
  have i3 : ¬ (a : Int) ≥ (t.np : Int) := by omega
  clear hc
  have hf := Lib.hid hf
  rw [hat] at hrd
  obtain ⟨hdl, g', o', hq', hg', hd⟩ := hpd
  rw [hq, Option.some.injEq, Addr.mk.injEq] at hq'
  obtain ⟨rfl, rfl, -⟩ := hq'
  have HD := Lib.hid hd
  have j0 : (0 : Int) ≤ (d : Int) := by omega
  have j1 : (d : Int) < (t.np : Int) := by omega
  have dn : ((d : Int) == -1) = false := by first | (simp; done) | (simp; omega)
  have uw0 : IntKind.u8.wrap 0 = 0 := by kernel_rfl
  have uw1 : IntKind.u8.wrap 1 = 1 := by kernel_rfl
  clear hd
  have t1 : ((q.zn : Int) != 2) = false := by simp [hz]
  have t2 : ((q.hs : Int) == 1) = false := by rw [hk]; decide
  have m1 : max (IntKind.i64.wrap (B - A)) 0 = 0 := by rw [IntWalk.i64_in _ (by omega)]; omega
  have m1w : max (wrap64 (B - A)) 0 = 0 := by unfold wrap64; omega
  have m2 : max (IntKind.i64.wrap (A - B)) 0 = 0 := by rw [IntWalk.i64_in _ (by omega)]; omega
  have m2w : max (wrap64 (A - B)) 0 = 0 := by unfold wrap64; omega
  have hfd := Lib.hid hfd
  have m1v : max (B - A) 0 = 0 := by omega
  have m2v : max (A - B) 0 = 0 := by omega
  have cg : ¬ A > B := by omega
  have cl : ¬ A < B := by omega
  have cz : (A == 0) = true := by simp; omega
  have HP := Lib.hid hh
  have HK := Lib.hid hk
  have HLW := Lib.hid hlw
  clear hz hh hk hlw hc hB hA hp
  obtain ⟨w0, hw0⟩ : ∃ w0, w0 = ((w.alloc (.cells t.row 28)).alloc (.cells #[.int .i64 0, .int .i64 0] 24)).alloc (.cells #[.int .i64 0, .int .i64 0] 24) := ⟨_, rfl⟩
  have hb0 : Below w.heap.size w w0 := by rw [hw0]; exact below_al (below_al (below_al (Below.refl _ _)))
  have hx0 : w0.heap[w.heap.size]? = some (.cells t.row 28 (0, 0)) := by rw [hw0]; exact heap_older (heap_older (heap_alloc_new _ _))
  have hr0 : w0.heap[w.heap.size + 1]? = some (.cells #[.int .i64 0, .int .i64 0] 24 (0, 0)) := by rw [hw0]; exact heap_older (heap_newer _ _ _ (by simp))
  have hh0 : w0.heap[w.heap.size + 1 + 1]? = some (.cells #[.int .i64 0, .int .i64 0] 24 (0, 0)) := by rw [hw0]; exact heap_newer _ _ _ (by simp)
  have HB0 := Lib.hid hb0
  have HX0 := Lib.hid hx0
  have HR0 := Lib.hid hr0
  have HH0 := Lib.hid hh0
  have HW0 := Lib.hid hw0
  clear hb0 hx0 hr0 hh0 hw0
  simp only [Tb.row] at *
  rw [hq] at HM hf hfd HX0 HW0 ⊢
  clear hq
  go_enter Try.func10, Try.ntmps10
  go_wp2_with fail
  rw [← HW0.out]
  (with_reducible refine (HM.out _ HB0.out).mono ?_)
  rintro e w1 ⟨rfl, b1⟩
  have HB1 := Lib.hid (HB0.out.trans (b1.mono HB0.out.size))
  have HX1 := Lib.hid ((b1.block _ (heap_lt HX0.out)).trans HX0.out)
  have HR1 := Lib.hid ((b1.block _ (heap_lt HR0.out)).trans HR0.out)
  have HH1 := Lib.hid ((b1.block _ (heap_lt HH0.out)).trans HH0.out)
  clear b1
  have y1 := cell_blk (i := 1) HX1.out
  simp at y1
  have hlx1 := heap_lt HX1.out
  have c0 : w1.cell? ⟨g, o + a * 14, none⟩ = some (.int .i64 p.df) := cell_later HB1.out (HC.out 0 _ rfl)
  have c1 : w1.cell? ⟨g, o + a * 14 + 1, none⟩ = some (.int .i64 p.ak) := cell_later HB1.out (HC.out 1 _ rfl)
  have c2 : w1.cell? ⟨g, o + a * 14 + 2, none⟩ = some (.int .i64 p.gd) := cell_later HB1.out (HC.out 2 _ rfl)
  have c3 : w1.cell? ⟨g, o + a * 14 + 3, none⟩ = some (.int .u8 p.ow) := cell_later HB1.out (HC.out 3 _ rfl)
  have c4 : w1.cell? ⟨g, o + a * 14 + 4, none⟩ = some (.int .u8 p.hs) := cell_later HB1.out (HC.out 4 _ rfl)
  have c5 : w1.cell? ⟨g, o + a * 14 + 5, none⟩ = some (.int .u8 p.zn) := cell_later HB1.out (HC.out 5 _ rfl)
  have c6 : w1.cell? ⟨g, o + a * 14 + 6, none⟩ = some (.int .i64 p.pl) := cell_later HB1.out (HC.out 6 _ rfl)
  have c7 : w1.cell? ⟨g, o + a * 14 + 7, none⟩ = some (.bool p.up) := cell_later HB1.out (HC.out 7 _ rfl)
  have c8 : w1.cell? ⟨g, o + a * 14 + 8, none⟩ = some (.bool p.lw) := cell_later HB1.out (HC.out 8 _ rfl)
  have c9 : w1.cell? ⟨g, o + a * 14 + 9, none⟩ = some (.int .i64 p.sc) := cell_later HB1.out (HC.out 9 _ rfl)
  have c10 : w1.cell? ⟨g, o + a * 14 + 10, none⟩ = some (.int .u8 p.us) := cell_later HB1.out (HC.out 10 _ rfl)
  have c11 : w1.cell? ⟨g, o + a * 14 + 11, none⟩ = some (.bool p.sk) := cell_later HB1.out (HC.out 11 _ rfl)
  have c12 : w1.cell? ⟨g, o + a * 14 + 12, none⟩ = some (.bool p.tu) := cell_later HB1.out (HC.out 12 _ rfl)
  have c13 : w1.cell? ⟨g, o + a * 14 + 13, none⟩ = some (.int .i64 p.bo) := cell_later HB1.out (HC.out 13 _ rfl)
  simp only [pcV] at hrd
  go_wp2_with fail
  (with_reducible refine (hrd.out _).mono ?_)
  rintro e w2 ⟨rfl, b2⟩
  have HB2 := Lib.hid (HB1.out.trans (b2.mono HB1.out.size))
  have HX2 := Lib.hid ((b2.block _ (heap_lt HX1.out)).trans HX1.out)
  have HR2 := Lib.hid ((b2.block _ (heap_lt HR1.out)).trans HR1.out)
  have HH2 := Lib.hid ((b2.block _ (heap_lt HH1.out)).trans HH1.out)
  clear b2 y1 c0 c1 c2 c3 c4 c5 c6 c7 c8 c9 c10 c11 c12 c13 hlx1
  have y0 := cell_blk (i := 0) HX2.out
  have y1 := cell_blk (i := 1) HX2.out
  have y2 := cell_blk (i := 2) HX2.out
  have y3 := cell_blk (i := 3) HX2.out
  have y4 := cell_blk (i := 4) HX2.out
  have y5 := cell_blk (i := 5) HX2.out
  have y6 := cell_blk (i := 6) HX2.out
  have y7 := cell_blk (i := 7) HX2.out
  have y8 := cell_blk (i := 8) HX2.out
  have y9 := cell_blk (i := 9) HX2.out
  simp at y0 y1 y2 y3 y4 y5 y6 y7 y8 y9
  have hlx2 := heap_lt HX2.out
  have c4 : w2.cell? ⟨g, o + a * 14 + 4, none⟩ = some (.int .u8 p.hs) := cell_later HB2.out (HC.out 4 _ rfl)
  rw [HP.out] at c4
  go_wp2_with fail
  (with_reducible refine (hf.out _ HB2.out).mono ?_)
  rintro e w3 ⟨rfl, b3⟩
  have HB3 := Lib.hid (HB2.out.trans (b3.mono HB2.out.size))
  have HX3 := Lib.hid ((b3.block _ (heap_lt HX2.out)).trans HX2.out)
  have HR3 := Lib.hid ((b3.block _ (heap_lt HR2.out)).trans HR2.out)
  have HH3 := Lib.hid ((b3.block _ (heap_lt HH2.out)).trans HH2.out)
  clear b3 y0 y1 y2 y3 y4 y5 y6 y7 y8 y9 c4 hlx2
  have y0 := cell_blk (i := 0) HX3.out
  have y1 := cell_blk (i := 1) HX3.out
  have y2 := cell_blk (i := 2) HX3.out
  have y3 := cell_blk (i := 3) HX3.out
  have y4 := cell_blk (i := 4) HX3.out
  have y5 := cell_blk (i := 5) HX3.out
  have y6 := cell_blk (i := 6) HX3.out
  have y7 := cell_blk (i := 7) HX3.out
  have y8 := cell_blk (i := 8) HX3.out
  have y9 := cell_blk (i := 9) HX3.out
  simp at y0 y1 y2 y3 y4 y5 y6 y7 y8 y9
  have hlx3 := heap_lt HX3.out
  have hg3 : g < w3.heap.size := Nat.lt_of_lt_of_le hg HB3.out.size
  have e0 : w3.cell? ⟨g, o + d * 14, none⟩ = some (.int .i64 q.df) := cell_later HB3.out (HD.out 0 _ rfl)
  have e1 : w3.cell? ⟨g, o + d * 14 + 1, none⟩ = some (.int .i64 q.ak) := cell_later HB3.out (HD.out 1 _ rfl)
  have e2 : w3.cell? ⟨g, o + d * 14 + 2, none⟩ = some (.int .i64 q.gd) := cell_later HB3.out (HD.out 2 _ rfl)
  have e3 : w3.cell? ⟨g, o + d * 14 + 3, none⟩ = some (.int .u8 q.ow) := cell_later HB3.out (HD.out 3 _ rfl)
  have e4 : w3.cell? ⟨g, o + d * 14 + 4, none⟩ = some (.int .u8 q.hs) := cell_later HB3.out (HD.out 4 _ rfl)
  have e5 : w3.cell? ⟨g, o + d * 14 + 5, none⟩ = some (.int .u8 q.zn) := cell_later HB3.out (HD.out 5 _ rfl)
  have e6 : w3.cell? ⟨g, o + d * 14 + 6, none⟩ = some (.int .i64 q.pl) := cell_later HB3.out (HD.out 6 _ rfl)
  have e7 : w3.cell? ⟨g, o + d * 14 + 7, none⟩ = some (.bool q.up) := cell_later HB3.out (HD.out 7 _ rfl)
  have e8 : w3.cell? ⟨g, o + d * 14 + 8, none⟩ = some (.bool q.lw) := cell_later HB3.out (HD.out 8 _ rfl)
  have e9 : w3.cell? ⟨g, o + d * 14 + 9, none⟩ = some (.int .i64 q.sc) := cell_later HB3.out (HD.out 9 _ rfl)
  have e10 : w3.cell? ⟨g, o + d * 14 + 10, none⟩ = some (.int .u8 q.us) := cell_later HB3.out (HD.out 10 _ rfl)
  have e11 : w3.cell? ⟨g, o + d * 14 + 11, none⟩ = some (.bool q.sk) := cell_later HB3.out (HD.out 11 _ rfl)
  have e12 : w3.cell? ⟨g, o + d * 14 + 12, none⟩ = some (.bool q.tu) := cell_later HB3.out (HD.out 12 _ rfl)
  have e13 : w3.cell? ⟨g, o + d * 14 + 13, none⟩ = some (.int .i64 q.bo) := cell_later HB3.out (HD.out 13 _ rfl)
  rw [HLW.out] at e8
  obtain ⟨w4, hw4⟩ : ∃ w4, w4 = w3.alloc (.cells (pcV q).toArray 45) := ⟨_, rfl⟩
  have HR4 : Hid (w4.heap[w.heap.size + 1]? = some _) := Lib.hid (by rw [hw4]; exact heap_older HR3.out)
  have HH4 : Hid (w4.heap[w.heap.size + 1 + 1]? = some _) := Lib.hid (by rw [hw4]; exact heap_older HH3.out)
  have HB4 : Hid (Below w.heap.size w w4) := Lib.hid (by rw [hw4]; exact below_al HB3.out)
  have hls : w.heap.size + 1 + 1 < w3.heap.size := heap_lt HH3.out
  have HW4 := Lib.hid hw4
  clear hw4
  simp only [pcV] at HW4
  rw [HLW.out] at HW4
  go_wp2_with fail
  rw [← HW4.out]
  clear y0 y1 y2 y3 y4 y5 y6 y7 y8 y9 e0 e1 e2 e3 e4 e5 e6 e7 e8 e9 e10 e11 e12 e13 hlx3
  (with_reducible refine (hfd.out _ HB4.out).mono ?_)
  rintro e w5 ⟨rfl, b5⟩
  have HB5 := Lib.hid (HB4.out.trans (b5.mono HB4.out.size))
  have HR5 := Lib.hid ((b5.block _ (heap_lt HR4.out)).trans HR4.out)
  have HH5 := Lib.hid ((b5.block _ (heap_lt HH4.out)).trans HH4.out)
  have hls5 : w.heap.size + 1 + 1 < w5.heap.size := heap_lt HH5.out
  clear b5
  have hlh5 := heap_lt HH5.out
  have z0 : w5.cell? ⟨w.heap.size + 1 + 1, 0, none⟩ = some (.int .i64 0) := cell_blk HH5.out
  have z1 : w5.cell? ⟨w.heap.size + 1 + 1, 1, none⟩ = some (.int .i64 0) := cell_blk HH5.out
  have hlr5 := heap_lt HR5.out
  have r0 : w5.cell? ⟨w.heap.size + 1, 0, none⟩ = some (.int .i64 0) := cell_blk HR5.out
  have r1 : w5.cell? ⟨w.heap.size + 1, 1, none⟩ = some (.int .i64 0) := cell_blk HR5.out
  have g0 := free_blk (i := 0) HH5.out
  have g1 := free_blk (i := 1) HH5.out
  have f0 := free_blk (i := 0) HR5.out
  have f1 := free_blk (i := 1) HR5.out
  go_wp2_with fail
  refine bodyPost_ret (results_cell_slot2 rfl _ _ _ (w.heap.size + 1) _ _ _ _ _ rfl (by (repeat (with_reducible refine heap_older ?_)); refine two_set1 (a0 := .int .i64 (0)) (a1 := .int .i64 0) (t := 24) _ ?_; refine two_set0 (a0 := .int .i64 0) (a1 := .int .i64 0) (t := 24) _ ?_; (repeat (first | (with_reducible exact HR5.out) | (with_reducible refine heap_older ?_) | (refine (heap_set_far (by show _ ≠ _; dsimp only; omega) _).trans ?_)))) Try.underlying24 (by kernel_rfl)) rfl ?_
  exact ⟨⟨_, rfl, IntsOwn.nil _ _⟩, (by repeat (first | (with_reducible exact HB5.out) | (with_reducible refine below_al ?_) | (refine Below.setCell ?_ (by show _ ≤ _; dsimp only; omega) _)))⟩

end Go.Proofs.Ytfdehhibgdeedaa
