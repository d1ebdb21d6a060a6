import Derived.Test.YtfdehhibgdeedaaQFtTable
/- joustref15: what the document says a fight comes to. -/
namespace Go.Proofs.Ytfdehhibgdeedaa
open Go.RowKit Go.Lib

set_option maxHeartbeats 1000000 in
theorem rready_any (p : Pc) (w : World) : Calls Try.prog 25 #[.agg (pcV p).toArray] w fun e w' => e = .returned (.bool (attB p)) ∧ Below w.heap.size w w' := by
  simp only [pcV, attB]
  by_cases hz : p.zn = 2
  · have e1 : ((p.zn : Int) == 2) = true := by simp [hz]
    have HE : Hid ((p.zn == 2) = true) := Lib.hid (by simp [hz])
    clear hz
    cases hu : p.up <;> cases hl : p.lw
    all_goals
      go_enter Try.func25, Try.ntmps25
      go_wp2_with fail
      go_ret
      exact ⟨ret_bool (by rw [HE.out]; rfl), (Below.refl _ _).alloc (Nat.le_refl _) _⟩
  · have e1 : ((p.zn : Int) == 2) = false := by simp; omega
    have HE : Hid ((p.zn == 2) = false) := Lib.hid (by simp [hz])
    clear hz
    go_enter Try.func25, Try.ntmps25
    go_wp2_with fail
    go_ret
    exact ⟨ret_bool (by rw [HE.out]; rfl), (Below.refl _ _).alloc (Nat.le_refl _) _⟩
theorem below_al {w W : World} {o : Obj} (h : Below w.heap.size w W) : Below w.heap.size w (W.alloc o) := h.alloc h.size o
theorem ints_al {W : World} {b : Nat} {v : Value} {l : List Int} (h : IntsOwn W b v l) (o : Obj) : IntsOwn (W.alloc o) b v l := h.below ((Below.refl _ _).alloc (Nat.le_refl _) _)

set_option maxHeartbeats 16000000 in
set_option maxRecDepth 100000 in
theorem rout_nomay (t : Tb) (a d : Int) (w : World) (hm : ∀ W, Below w.heap.size w W → Calls Try.prog 17 #[.agg t.row] W fun e w' => e = .returned (.bool false) ∧ Below W.heap.size W w')  :
    Calls Try.prog 10 #[.agg t.row, .int .i64 a, .int .i64 d] w (OutEnds ((((0, 0), []) : FO)) 2 w) := by
  have HM := Lib.hid hm
  clear hm
  obtain ⟨w0, hw0⟩ : ∃ w0, w0 = ((w.alloc (.cells t.row 28)).alloc (.cells #[.int .i64 0, .int .i64 0] 24)).alloc (.cells #[.int .i64 0, .int .i64 0] 24) := ⟨_, rfl⟩
  have hb0 : Below w.heap.size w w0 := by rw [hw0]; exact below_al (below_al (below_al (Below.refl _ _)))
  have hx0 : w0.heap[w.heap.size]? = some (.cells t.row 28 (0, 0)) := by rw [hw0]; exact heap_older (heap_older (heap_alloc_new _ _))
  have hr0 : w0.heap[w.heap.size + 1]? = some (.cells #[.int .i64 0, .int .i64 0] 24 (0, 0)) := by rw [hw0]; exact heap_older (heap_newer _ _ _ (by simp))
  have hh0 : w0.heap[w.heap.size + 1 + 1]? = some (.cells #[.int .i64 0, .int .i64 0] 24 (0, 0)) := by rw [hw0]; exact heap_newer _ _ _ (by simp)
  have HB0 := Lib.hid hb0
  have HX0 := Lib.hid hx0
  have HR0 := Lib.hid hr0
  have HH0 := Lib.hid hh0
  have HW0 := Lib.hid hw0
  clear hb0 hx0 hr0 hh0 hw0
  simp only [Tb.row] at *
  go_enter Try.func10, Try.ntmps10
  go_wp2_with fail
  rw [← HW0.out]
  (with_reducible refine (HM.out _ HB0.out).mono ?_)
  rintro e w1 ⟨rfl, b1⟩
  have HB1 := Lib.hid (HB0.out.trans (b1.mono HB0.out.size))
  have HX1 := Lib.hid ((b1.block _ (heap_lt HX0.out)).trans HX0.out)
  have HR1 := Lib.hid ((b1.block _ (heap_lt HR0.out)).trans HR0.out)
  have HH1 := Lib.hid ((b1.block _ (heap_lt HH0.out)).trans HH0.out)
  clear b1
  have hlh1 := heap_lt HH1.out
  have z0 : w1.cell? ⟨w.heap.size + 1 + 1, 0, none⟩ = some (.int .i64 0) := cell_blk HH1.out
  have z1 : w1.cell? ⟨w.heap.size + 1 + 1, 1, none⟩ = some (.int .i64 0) := cell_blk HH1.out
  have hlr1 := heap_lt HR1.out
  have r0 : w1.cell? ⟨w.heap.size + 1, 0, none⟩ = some (.int .i64 0) := cell_blk HR1.out
  have r1 : w1.cell? ⟨w.heap.size + 1, 1, none⟩ = some (.int .i64 0) := cell_blk HR1.out
  have g0 := free_blk (i := 0) HH1.out
  have g1 := free_blk (i := 1) HH1.out
  have f0 := free_blk (i := 0) HR1.out
  have f1 := free_blk (i := 1) HR1.out
  go_wp2_with fail
  refine bodyPost_ret (results_cell_slot2 rfl _ _ _ (w.heap.size + 1) _ _ _ _ _ rfl (by (repeat (with_reducible refine heap_older ?_)); refine two_set1 (a0 := .int .i64 (0)) (a1 := .int .i64 0) (t := 24) _ ?_; refine two_set0 (a0 := .int .i64 0) (a1 := .int .i64 0) (t := 24) _ ?_; (repeat (first | (with_reducible exact HR1.out) | (with_reducible refine heap_older ?_) | (refine (heap_set_far (by show _ ≠ _; dsimp only; omega) _).trans ?_)))) Try.underlying24 (by kernel_rfl)) rfl ?_
  exact ⟨⟨_, rfl, IntsOwn.nil _ _⟩, (by repeat (first | (with_reducible exact HB1.out) | (with_reducible refine below_al ?_) | (refine Below.setCell ?_ (by show _ ≤ _; dsimp only; omega) _)))⟩

set_option maxHeartbeats 16000000 in
set_option maxRecDepth 100000 in
theorem rout_a1 (t : Tb) (a d : Int) (w : World) (hm : ∀ W, Below w.heap.size w W → Calls Try.prog 17 #[.agg t.row] W fun e w' => e = .returned (.bool true) ∧ Below W.heap.size W w') (h1 : a < 0) :
    Calls Try.prog 10 #[.agg t.row, .int .i64 a, .int .i64 d] w (OutEnds ((((0, 0), []) : FO)) 2 w) := by
  have HM := Lib.hid hm
  clear hm
  obtain ⟨w0, hw0⟩ : ∃ w0, w0 = ((w.alloc (.cells t.row 28)).alloc (.cells #[.int .i64 0, .int .i64 0] 24)).alloc (.cells #[.int .i64 0, .int .i64 0] 24) := ⟨_, rfl⟩
  have hb0 : Below w.heap.size w w0 := by rw [hw0]; exact below_al (below_al (below_al (Below.refl _ _)))
  have hx0 : w0.heap[w.heap.size]? = some (.cells t.row 28 (0, 0)) := by rw [hw0]; exact heap_older (heap_older (heap_alloc_new _ _))
  have hr0 : w0.heap[w.heap.size + 1]? = some (.cells #[.int .i64 0, .int .i64 0] 24 (0, 0)) := by rw [hw0]; exact heap_older (heap_newer _ _ _ (by simp))
  have hh0 : w0.heap[w.heap.size + 1 + 1]? = some (.cells #[.int .i64 0, .int .i64 0] 24 (0, 0)) := by rw [hw0]; exact heap_newer _ _ _ (by simp)
  have HB0 := Lib.hid hb0
  have HX0 := Lib.hid hx0
  have HR0 := Lib.hid hr0
  have HH0 := Lib.hid hh0
  have HW0 := Lib.hid hw0
  clear hb0 hx0 hr0 hh0 hw0
  simp only [Tb.row] at *
  go_enter Try.func10, Try.ntmps10
  go_wp2_with fail
  rw [← HW0.out]
  (with_reducible refine (HM.out _ HB0.out).mono ?_)
  rintro e w1 ⟨rfl, b1⟩
  have HB1 := Lib.hid (HB0.out.trans (b1.mono HB0.out.size))
  have HX1 := Lib.hid ((b1.block _ (heap_lt HX0.out)).trans HX0.out)
  have HR1 := Lib.hid ((b1.block _ (heap_lt HR0.out)).trans HR0.out)
  have HH1 := Lib.hid ((b1.block _ (heap_lt HH0.out)).trans HH0.out)
  clear b1
  have y1 := cell_blk (i := 1) HX1.out
  simp at y1
  have hlx := heap_lt HX1.out
  have hlh1 := heap_lt HH1.out
  have z0 : w1.cell? ⟨w.heap.size + 1 + 1, 0, none⟩ = some (.int .i64 0) := cell_blk HH1.out
  have z1 : w1.cell? ⟨w.heap.size + 1 + 1, 1, none⟩ = some (.int .i64 0) := cell_blk HH1.out
  have hlr1 := heap_lt HR1.out
  have r0 : w1.cell? ⟨w.heap.size + 1, 0, none⟩ = some (.int .i64 0) := cell_blk HR1.out
  have r1 : w1.cell? ⟨w.heap.size + 1, 1, none⟩ = some (.int .i64 0) := cell_blk HR1.out
  have g0 := free_blk (i := 0) HH1.out
  have g1 := free_blk (i := 1) HH1.out
  have f0 := free_blk (i := 0) HR1.out
  have f1 := free_blk (i := 1) HR1.out
  go_wp2_with fail
  refine bodyPost_ret (results_cell_slot2 rfl _ _ _ (w.heap.size + 1) _ _ _ _ _ rfl (by (repeat (with_reducible refine heap_older ?_)); refine two_set1 (a0 := .int .i64 (0)) (a1 := .int .i64 0) (t := 24) _ ?_; refine two_set0 (a0 := .int .i64 0) (a1 := .int .i64 0) (t := 24) _ ?_; (repeat (first | (with_reducible exact HR1.out) | (with_reducible refine heap_older ?_) | (refine (heap_set_far (by show _ ≠ _; dsimp only; omega) _).trans ?_)))) Try.underlying24 (by kernel_rfl)) rfl ?_
  exact ⟨⟨_, rfl, IntsOwn.nil _ _⟩, (by repeat (first | (with_reducible exact HB1.out) | (with_reducible refine below_al ?_) | (refine Below.setCell ?_ (by show _ ≤ _; dsimp only; omega) _)))⟩

set_option maxHeartbeats 16000000 in
set_option maxRecDepth 100000 in
theorem rout_a2 (t : Tb) (a d : Int) (w : World) (hm : ∀ W, Below w.heap.size w W → Calls Try.prog 17 #[.agg t.row] W fun e w' => e = .returned (.bool true) ∧ Below W.heap.size W w') (h1 : ¬ a < 0) (h2 : a ≥ (t.np : Int)) :
    Calls Try.prog 10 #[.agg t.row, .int .i64 a, .int .i64 d] w (OutEnds ((((0, 0), []) : FO)) 2 w) := by
  have HM := Lib.hid hm
  clear hm
  obtain ⟨w0, hw0⟩ : ∃ w0, w0 = ((w.alloc (.cells t.row 28)).alloc (.cells #[.int .i64 0, .int .i64 0] 24)).alloc (.cells #[.int .i64 0, .int .i64 0] 24) := ⟨_, rfl⟩
  have hb0 : Below w.heap.size w w0 := by rw [hw0]; exact below_al (below_al (below_al (Below.refl _ _)))
  have hx0 : w0.heap[w.heap.size]? = some (.cells t.row 28 (0, 0)) := by rw [hw0]; exact heap_older (heap_older (heap_alloc_new _ _))
  have hr0 : w0.heap[w.heap.size + 1]? = some (.cells #[.int .i64 0, .int .i64 0] 24 (0, 0)) := by rw [hw0]; exact heap_older (heap_newer _ _ _ (by simp))
  have hh0 : w0.heap[w.heap.size + 1 + 1]? = some (.cells #[.int .i64 0, .int .i64 0] 24 (0, 0)) := by rw [hw0]; exact heap_newer _ _ _ (by simp)
  have HB0 := Lib.hid hb0
  have HX0 := Lib.hid hx0
  have HR0 := Lib.hid hr0
  have HH0 := Lib.hid hh0
  have HW0 := Lib.hid hw0
  clear hb0 hx0 hr0 hh0 hw0
  simp only [Tb.row] at *
  go_enter Try.func10, Try.ntmps10
  go_wp2_with fail
  rw [← HW0.out]
  (with_reducible refine (HM.out _ HB0.out).mono ?_)
  rintro e w1 ⟨rfl, b1⟩
  have HB1 := Lib.hid (HB0.out.trans (b1.mono HB0.out.size))
  have HX1 := Lib.hid ((b1.block _ (heap_lt HX0.out)).trans HX0.out)
  have HR1 := Lib.hid ((b1.block _ (heap_lt HR0.out)).trans HR0.out)
  have HH1 := Lib.hid ((b1.block _ (heap_lt HH0.out)).trans HH0.out)
  clear b1
  have y1 := cell_blk (i := 1) HX1.out
  simp at y1
  have hlx := heap_lt HX1.out
  have hlh1 := heap_lt HH1.out
  have z0 : w1.cell? ⟨w.heap.size + 1 + 1, 0, none⟩ = some (.int .i64 0) := cell_blk HH1.out
  have z1 : w1.cell? ⟨w.heap.size + 1 + 1, 1, none⟩ = some (.int .i64 0) := cell_blk HH1.out
  have hlr1 := heap_lt HR1.out
  have r0 : w1.cell? ⟨w.heap.size + 1, 0, none⟩ = some (.int .i64 0) := cell_blk HR1.out
  have r1 : w1.cell? ⟨w.heap.size + 1, 1, none⟩ = some (.int .i64 0) := cell_blk HR1.out
  have g0 := free_blk (i := 0) HH1.out
  have g1 := free_blk (i := 1) HH1.out
  have f0 := free_blk (i := 0) HR1.out
  have f1 := free_blk (i := 1) HR1.out
  go_wp2_with fail
  refine bodyPost_ret (results_cell_slot2 rfl _ _ _ (w.heap.size + 1) _ _ _ _ _ rfl (by (repeat (with_reducible refine heap_older ?_)); refine two_set1 (a0 := .int .i64 (0)) (a1 := .int .i64 0) (t := 24) _ ?_; refine two_set0 (a0 := .int .i64 0) (a1 := .int .i64 0) (t := 24) _ ?_; (repeat (first | (with_reducible exact HR1.out) | (with_reducible refine heap_older ?_) | (refine (heap_set_far (by show _ ≠ _; dsimp only; omega) _).trans ?_)))) Try.underlying24 (by kernel_rfl)) rfl ?_
  exact ⟨⟨_, rfl, IntsOwn.nil _ _⟩, (by repeat (first | (with_reducible exact HB1.out) | (with_reducible refine below_al ?_) | (refine Below.setCell ?_ (by show _ ≤ _; dsimp only; omega) _)))⟩

set_option maxHeartbeats 16000000 in
set_option maxRecDepth 100000 in
theorem rout_d1 (t : Tb) (a d : Int) (w : World) (hm : ∀ W, Below w.heap.size w W → Calls Try.prog 17 #[.agg t.row] W fun e w' => e = .returned (.bool true) ∧ Below W.heap.size W w') (h1 : ¬ a < 0) (h2 : ¬ a ≥ (t.np : Int)) (h3 : d < -1) :
    Calls Try.prog 10 #[.agg t.row, .int .i64 a, .int .i64 d] w (OutEnds ((((0, 0), []) : FO)) 2 w) := by
  have HM := Lib.hid hm
  clear hm
  obtain ⟨w0, hw0⟩ : ∃ w0, w0 = ((w.alloc (.cells t.row 28)).alloc (.cells #[.int .i64 0, .int .i64 0] 24)).alloc (.cells #[.int .i64 0, .int .i64 0] 24) := ⟨_, rfl⟩
  have hb0 : Below w.heap.size w w0 := by rw [hw0]; exact below_al (below_al (below_al (Below.refl _ _)))
  have hx0 : w0.heap[w.heap.size]? = some (.cells t.row 28 (0, 0)) := by rw [hw0]; exact heap_older (heap_older (heap_alloc_new _ _))
  have hr0 : w0.heap[w.heap.size + 1]? = some (.cells #[.int .i64 0, .int .i64 0] 24 (0, 0)) := by rw [hw0]; exact heap_older (heap_newer _ _ _ (by simp))
  have hh0 : w0.heap[w.heap.size + 1 + 1]? = some (.cells #[.int .i64 0, .int .i64 0] 24 (0, 0)) := by rw [hw0]; exact heap_newer _ _ _ (by simp)
  have HB0 := Lib.hid hb0
  have HX0 := Lib.hid hx0
  have HR0 := Lib.hid hr0
  have HH0 := Lib.hid hh0
  have HW0 := Lib.hid hw0
  clear hb0 hx0 hr0 hh0 hw0
  simp only [Tb.row] at *
  go_enter Try.func10, Try.ntmps10
  go_wp2_with fail
  rw [← HW0.out]
  (with_reducible refine (HM.out _ HB0.out).mono ?_)
  rintro e w1 ⟨rfl, b1⟩
  have HB1 := Lib.hid (HB0.out.trans (b1.mono HB0.out.size))
  have HX1 := Lib.hid ((b1.block _ (heap_lt HX0.out)).trans HX0.out)
  have HR1 := Lib.hid ((b1.block _ (heap_lt HR0.out)).trans HR0.out)
  have HH1 := Lib.hid ((b1.block _ (heap_lt HH0.out)).trans HH0.out)
  clear b1
  have y1 := cell_blk (i := 1) HX1.out
  simp at y1
  have hlx := heap_lt HX1.out
  have hlh1 := heap_lt HH1.out
  have z0 : w1.cell? ⟨w.heap.size + 1 + 1, 0, none⟩ = some (.int .i64 0) := cell_blk HH1.out
  have z1 : w1.cell? ⟨w.heap.size + 1 + 1, 1, none⟩ = some (.int .i64 0) := cell_blk HH1.out
  have hlr1 := heap_lt HR1.out
  have r0 : w1.cell? ⟨w.heap.size + 1, 0, none⟩ = some (.int .i64 0) := cell_blk HR1.out
  have r1 : w1.cell? ⟨w.heap.size + 1, 1, none⟩ = some (.int .i64 0) := cell_blk HR1.out
  have g0 := free_blk (i := 0) HH1.out
  have g1 := free_blk (i := 1) HH1.out
  have f0 := free_blk (i := 0) HR1.out
  have f1 := free_blk (i := 1) HR1.out
  go_wp2_with fail
  refine bodyPost_ret (results_cell_slot2 rfl _ _ _ (w.heap.size + 1) _ _ _ _ _ rfl (by (repeat (with_reducible refine heap_older ?_)); refine two_set1 (a0 := .int .i64 (0)) (a1 := .int .i64 0) (t := 24) _ ?_; refine two_set0 (a0 := .int .i64 0) (a1 := .int .i64 0) (t := 24) _ ?_; (repeat (first | (with_reducible exact HR1.out) | (with_reducible refine heap_older ?_) | (refine (heap_set_far (by show _ ≠ _; dsimp only; omega) _).trans ?_)))) Try.underlying24 (by kernel_rfl)) rfl ?_
  exact ⟨⟨_, rfl, IntsOwn.nil _ _⟩, (by repeat (first | (with_reducible exact HB1.out) | (with_reducible refine below_al ?_) | (refine Below.setCell ?_ (by show _ ≤ _; dsimp only; omega) _)))⟩

set_option maxHeartbeats 16000000 in
set_option maxRecDepth 100000 in
theorem rout_d2 (t : Tb) (a d : Int) (w : World) (hm : ∀ W, Below w.heap.size w W → Calls Try.prog 17 #[.agg t.row] W fun e w' => e = .returned (.bool true) ∧ Below W.heap.size W w') (h1 : ¬ a < 0) (h2 : ¬ a ≥ (t.np : Int)) (h3 : ¬ d < -1) (h4 : d ≥ (t.np : Int)) :
    Calls Try.prog 10 #[.agg t.row, .int .i64 a, .int .i64 d] w (OutEnds ((((0, 0), []) : FO)) 2 w) := by
  have HM := Lib.hid hm
  clear hm
  obtain ⟨w0, hw0⟩ : ∃ w0, w0 = ((w.alloc (.cells t.row 28)).alloc (.cells #[.int .i64 0, .int .i64 0] 24)).alloc (.cells #[.int .i64 0, .int .i64 0] 24) := ⟨_, rfl⟩
  have hb0 : Below w.heap.size w w0 := by rw [hw0]; exact below_al (below_al (below_al (Below.refl _ _)))
  have hx0 : w0.heap[w.heap.size]? = some (.cells t.row 28 (0, 0)) := by rw [hw0]; exact heap_older (heap_older (heap_alloc_new _ _))
  have hr0 : w0.heap[w.heap.size + 1]? = some (.cells #[.int .i64 0, .int .i64 0] 24 (0, 0)) := by rw [hw0]; exact heap_older (heap_newer _ _ _ (by simp))
  have hh0 : w0.heap[w.heap.size + 1 + 1]? = some (.cells #[.int .i64 0, .int .i64 0] 24 (0, 0)) := by rw [hw0]; exact heap_newer _ _ _ (by simp)
  have HB0 := Lib.hid hb0
  have HX0 := Lib.hid hx0
  have HR0 := Lib.hid hr0
  have HH0 := Lib.hid hh0
  have HW0 := Lib.hid hw0
  clear hb0 hx0 hr0 hh0 hw0
  simp only [Tb.row] at *
  go_enter Try.func10, Try.ntmps10
  go_wp2_with fail
  rw [← HW0.out]
  (with_reducible refine (HM.out _ HB0.out).mono ?_)
  rintro e w1 ⟨rfl, b1⟩
  have HB1 := Lib.hid (HB0.out.trans (b1.mono HB0.out.size))
  have HX1 := Lib.hid ((b1.block _ (heap_lt HX0.out)).trans HX0.out)
  have HR1 := Lib.hid ((b1.block _ (heap_lt HR0.out)).trans HR0.out)
  have HH1 := Lib.hid ((b1.block _ (heap_lt HH0.out)).trans HH0.out)
  clear b1
  have y1 := cell_blk (i := 1) HX1.out
  simp at y1
  have hlx := heap_lt HX1.out
  have hlh1 := heap_lt HH1.out
  have z0 : w1.cell? ⟨w.heap.size + 1 + 1, 0, none⟩ = some (.int .i64 0) := cell_blk HH1.out
  have z1 : w1.cell? ⟨w.heap.size + 1 + 1, 1, none⟩ = some (.int .i64 0) := cell_blk HH1.out
  have hlr1 := heap_lt HR1.out
  have r0 : w1.cell? ⟨w.heap.size + 1, 0, none⟩ = some (.int .i64 0) := cell_blk HR1.out
  have r1 : w1.cell? ⟨w.heap.size + 1, 1, none⟩ = some (.int .i64 0) := cell_blk HR1.out
  have g0 := free_blk (i := 0) HH1.out
  have g1 := free_blk (i := 1) HH1.out
  have f0 := free_blk (i := 0) HR1.out
  have f1 := free_blk (i := 1) HR1.out
  go_wp2_with fail
  refine bodyPost_ret (results_cell_slot2 rfl _ _ _ (w.heap.size + 1) _ _ _ _ _ rfl (by (repeat (with_reducible refine heap_older ?_)); refine two_set1 (a0 := .int .i64 (0)) (a1 := .int .i64 0) (t := 24) _ ?_; refine two_set0 (a0 := .int .i64 0) (a1 := .int .i64 0) (t := 24) _ ?_; (repeat (first | (with_reducible exact HR1.out) | (with_reducible refine heap_older ?_) | (refine (heap_set_far (by show _ ≠ _; dsimp only; omega) _).trans ?_)))) Try.underlying24 (by kernel_rfl)) rfl ?_
  exact ⟨⟨_, rfl, IntsOwn.nil _ _⟩, (by repeat (first | (with_reducible exact HB1.out) | (with_reducible refine below_al ?_) | (refine Below.setCell ?_ (by show _ ≤ _; dsimp only; omega) _)))⟩

set_option maxHeartbeats 16000000 in
set_option maxRecDepth 100000 in
theorem rout_noatt (t : Tb) (a : Nat) (d : Int) (p : Pc) (w : World) (hm : ∀ W, Below w.heap.size w W → Calls Try.prog 17 #[.agg t.row] W fun e w' => e = .returned (.bool true) ∧ Below W.heap.size W w') (hpa : a < t.np ∧ ∃ g o, t.qp = some ⟨g, o, none⟩ ∧ g < w.heap.size ∧ ∀ (j : Nat) (u : Value), (pcV p)[j]? = some u → w.cell? ⟨g, o + a * 14 + j, none⟩ = some u) (hat : attB p = false) (h3 : ¬ d < -1) (h4 : ¬ d ≥ (t.np : Int)) :
    Calls Try.prog 10 #[.agg t.row, .int .i64 a, .int .i64 d] w (OutEnds ((((0, 0), []) : FO)) 2 w) := by
  have HM := Lib.hid hm
  clear hm
  obtain ⟨hal, g, o, hq, hg, hc⟩ := hpa
  have HC := Lib.hid hc
  have hrd := Lib.hid fun W => rready_any p W
  have i0 : (0 : Int) ≤ (a : Int) := by omega
  have i1 : (a : Int) < (t.np : Int) := by omega
  have i2 : ¬ (a : Int) < 0 := by omega
  have i3 : ¬ (a : Int) ≥ (t.np : Int) := by omega
  clear hc
  rw [hat] at hrd
  obtain ⟨w0, hw0⟩ : ∃ w0, w0 = ((w.alloc (.cells t.row 28)).alloc (.cells #[.int .i64 0, .int .i64 0] 24)).alloc (.cells #[.int .i64 0, .int .i64 0] 24) := ⟨_, rfl⟩
  have hb0 : Below w.heap.size w w0 := by rw [hw0]; exact below_al (below_al (below_al (Below.refl _ _)))
  have hx0 : w0.heap[w.heap.size]? = some (.cells t.row 28 (0, 0)) := by rw [hw0]; exact heap_older (heap_older (heap_alloc_new _ _))
  have hr0 : w0.heap[w.heap.size + 1]? = some (.cells #[.int .i64 0, .int .i64 0] 24 (0, 0)) := by rw [hw0]; exact heap_older (heap_newer _ _ _ (by simp))
  have hh0 : w0.heap[w.heap.size + 1 + 1]? = some (.cells #[.int .i64 0, .int .i64 0] 24 (0, 0)) := by rw [hw0]; exact heap_newer _ _ _ (by simp)
  have HB0 := Lib.hid hb0
  have HX0 := Lib.hid hx0
  have HR0 := Lib.hid hr0
  have HH0 := Lib.hid hh0
  have HW0 := Lib.hid hw0
  clear hb0 hx0 hr0 hh0 hw0
  simp only [Tb.row] at *
  rw [hq] at HM HX0 HW0 ⊢
  clear hq
  go_enter Try.func10, Try.ntmps10
  go_wp2_with fail
  rw [← HW0.out]
  (with_reducible refine (HM.out _ HB0.out).mono ?_)
  rintro e w1 ⟨rfl, b1⟩
  have HB1 := Lib.hid (HB0.out.trans (b1.mono HB0.out.size))
  have HX1 := Lib.hid ((b1.block _ (heap_lt HX0.out)).trans HX0.out)
  have HR1 := Lib.hid ((b1.block _ (heap_lt HR0.out)).trans HR0.out)
  have HH1 := Lib.hid ((b1.block _ (heap_lt HH0.out)).trans HH0.out)
  clear b1
  have y1 := cell_blk (i := 1) HX1.out
  simp at y1
  have hlx := heap_lt HX1.out
  have c0 : w1.cell? ⟨g, o + a * 14, none⟩ = some (.int .i64 p.df) := cell_later HB1.out (HC.out 0 _ rfl)
  have c1 : w1.cell? ⟨g, o + a * 14 + 1, none⟩ = some (.int .i64 p.ak) := cell_later HB1.out (HC.out 1 _ rfl)
  have c2 : w1.cell? ⟨g, o + a * 14 + 2, none⟩ = some (.int .i64 p.gd) := cell_later HB1.out (HC.out 2 _ rfl)
  have c3 : w1.cell? ⟨g, o + a * 14 + 3, none⟩ = some (.int .u8 p.ow) := cell_later HB1.out (HC.out 3 _ rfl)
  have c4 : w1.cell? ⟨g, o + a * 14 + 4, none⟩ = some (.int .u8 p.hs) := cell_later HB1.out (HC.out 4 _ rfl)
  have c5 : w1.cell? ⟨g, o + a * 14 + 5, none⟩ = some (.int .u8 p.zn) := cell_later HB1.out (HC.out 5 _ rfl)
  have c6 : w1.cell? ⟨g, o + a * 14 + 6, none⟩ = some (.int .i64 p.pl) := cell_later HB1.out (HC.out 6 _ rfl)
  have c7 : w1.cell? ⟨g, o + a * 14 + 7, none⟩ = some (.bool p.up) := cell_later HB1.out (HC.out 7 _ rfl)
  have c8 : w1.cell? ⟨g, o + a * 14 + 8, none⟩ = some (.bool p.lw) := cell_later HB1.out (HC.out 8 _ rfl)
  have c9 : w1.cell? ⟨g, o + a * 14 + 9, none⟩ = some (.int .i64 p.sc) := cell_later HB1.out (HC.out 9 _ rfl)
  have c10 : w1.cell? ⟨g, o + a * 14 + 10, none⟩ = some (.int .u8 p.us) := cell_later HB1.out (HC.out 10 _ rfl)
  have c11 : w1.cell? ⟨g, o + a * 14 + 11, none⟩ = some (.bool p.sk) := cell_later HB1.out (HC.out 11 _ rfl)
  have c12 : w1.cell? ⟨g, o + a * 14 + 12, none⟩ = some (.bool p.tu) := cell_later HB1.out (HC.out 12 _ rfl)
  have c13 : w1.cell? ⟨g, o + a * 14 + 13, none⟩ = some (.int .i64 p.bo) := cell_later HB1.out (HC.out 13 _ rfl)
  simp only [pcV] at hrd
  go_wp2_with fail
  (with_reducible refine (hrd.out _).mono ?_)
  rintro e w2 ⟨rfl, b2⟩
  have HB2 := Lib.hid (HB1.out.trans (b2.mono HB1.out.size))
  have HX2 := Lib.hid ((b2.block _ (heap_lt HX1.out)).trans HX1.out)
  have HR2 := Lib.hid ((b2.block _ (heap_lt HR1.out)).trans HR1.out)
  have HH2 := Lib.hid ((b2.block _ (heap_lt HH1.out)).trans HH1.out)
  clear b2 y1 c0 c1 c2 c3 c4 c5 c6 c7 c8 c9 c10 c11 c12 c13
  have hlh2 := heap_lt HH2.out
  have z0 : w2.cell? ⟨w.heap.size + 1 + 1, 0, none⟩ = some (.int .i64 0) := cell_blk HH2.out
  have z1 : w2.cell? ⟨w.heap.size + 1 + 1, 1, none⟩ = some (.int .i64 0) := cell_blk HH2.out
  have hlr2 := heap_lt HR2.out
  have r0 : w2.cell? ⟨w.heap.size + 1, 0, none⟩ = some (.int .i64 0) := cell_blk HR2.out
  have r1 : w2.cell? ⟨w.heap.size + 1, 1, none⟩ = some (.int .i64 0) := cell_blk HR2.out
  have g0 := free_blk (i := 0) HH2.out
  have g1 := free_blk (i := 1) HH2.out
  have f0 := free_blk (i := 0) HR2.out
  have f1 := free_blk (i := 1) HR2.out
  go_wp2_with fail
  refine bodyPost_ret (results_cell_slot2 rfl _ _ _ (w.heap.size + 1) _ _ _ _ _ rfl (by (repeat (with_reducible refine heap_older ?_)); refine two_set1 (a0 := .int .i64 (0)) (a1 := .int .i64 0) (t := 24) _ ?_; refine two_set0 (a0 := .int .i64 0) (a1 := .int .i64 0) (t := 24) _ ?_; (repeat (first | (with_reducible exact HR2.out) | (with_reducible refine heap_older ?_) | (refine (heap_set_far (by show _ ≠ _; dsimp only; omega) _).trans ?_)))) Try.underlying24 (by kernel_rfl)) rfl ?_
  exact ⟨⟨_, rfl, IntsOwn.nil _ _⟩, (by repeat (first | (with_reducible exact HB2.out) | (with_reducible refine below_al ?_) | (refine Below.setCell ?_ (by show _ ≤ _; dsimp only; omega) _)))⟩

set_option maxHeartbeats 16000000 in
set_option maxRecDepth 100000 in
theorem rout_nobody0 (t : Tb) (a : Nat) (A : Int) (p : Pc) (w : World) (hm : ∀ W, Below w.heap.size w W → Calls Try.prog 17 #[.agg t.row] W fun e w' => e = .returned (.bool true) ∧ Below W.heap.size W w') (hpa : a < t.np ∧ ∃ g o, t.qp = some ⟨g, o, none⟩ ∧ g < w.heap.size ∧ ∀ (j : Nat) (u : Value), (pcV p)[j]? = some u → w.cell? ⟨g, o + a * 14 + j, none⟩ = some u) (hat : attB p = true) (h3 : ¬ ((-1) : Int) < -1) (h4 : ¬ ((-1) : Int) ≥ (t.np : Int)) (hA : 0 ≤ A ∧ A ≤ 99999) (hf : ∀ W, Below w.heap.size w W → Calls Try.prog 16 #[.agg t.row, .int .i64 a] W fun e w' => e = .returned (.int .i64 A) ∧ Below W.heap.size W w') (hh : p.hs = 0) :
    Calls Try.prog 10 #[.agg t.row, .int .i64 a, .int .i64 (-1)] w (OutEnds ((((0, A), []) : FO)) 0 w) := by
  have HM := Lib.hid hm
  clear hm
  obtain ⟨hal, g, o, hq, hg, hc⟩ := hpa
  have HC := Lib.hid hc
  have hrd := Lib.hid fun W => rready_any p W
  have i0 : (0 : Int) ≤ (a : Int) := by omega
  have i1 : (a : Int) < (t.np : Int) := by omega
  have i2 : ¬ (a : Int) < 0 := by omega
  have i3 : ¬ (a : Int) ≥ (t.np : Int) := by omega
  clear hc
  have hf := Lib.hid hf
  rw [hat] at hrd
  have uw0 : IntKind.u8.wrap 0 = 0 := by kernel_rfl
  have uw1 : IntKind.u8.wrap 1 = 1 := by kernel_rfl
  have HP := Lib.hid hh
  clear hh
  obtain ⟨w0, hw0⟩ : ∃ w0, w0 = ((w.alloc (.cells t.row 28)).alloc (.cells #[.int .i64 0, .int .i64 0] 24)).alloc (.cells #[.int .i64 0, .int .i64 0] 24) := ⟨_, rfl⟩
  have hb0 : Below w.heap.size w w0 := by rw [hw0]; exact below_al (below_al (below_al (Below.refl _ _)))
  have hx0 : w0.heap[w.heap.size]? = some (.cells t.row 28 (0, 0)) := by rw [hw0]; exact heap_older (heap_older (heap_alloc_new _ _))
  have hr0 : w0.heap[w.heap.size + 1]? = some (.cells #[.int .i64 0, .int .i64 0] 24 (0, 0)) := by rw [hw0]; exact heap_older (heap_newer _ _ _ (by simp))
  have hh0 : w0.heap[w.heap.size + 1 + 1]? = some (.cells #[.int .i64 0, .int .i64 0] 24 (0, 0)) := by rw [hw0]; exact heap_newer _ _ _ (by simp)
  have HB0 := Lib.hid hb0
  have HX0 := Lib.hid hx0
  have HR0 := Lib.hid hr0
  have HH0 := Lib.hid hh0
  have HW0 := Lib.hid hw0
  clear hb0 hx0 hr0 hh0 hw0
  simp only [Tb.row] at *
  rw [hq] at HM hf HX0 HW0 ⊢
  clear hq
  go_enter Try.func10, Try.ntmps10
  go_wp2_with fail
  rw [← HW0.out]
  (with_reducible refine (HM.out _ HB0.out).mono ?_)
  rintro e w1 ⟨rfl, b1⟩
  have HB1 := Lib.hid (HB0.out.trans (b1.mono HB0.out.size))
  have HX1 := Lib.hid ((b1.block _ (heap_lt HX0.out)).trans HX0.out)
  have HR1 := Lib.hid ((b1.block _ (heap_lt HR0.out)).trans HR0.out)
  have HH1 := Lib.hid ((b1.block _ (heap_lt HH0.out)).trans HH0.out)
  clear b1
  have y1 := cell_blk (i := 1) HX1.out
  simp at y1
  have hlx1 := heap_lt HX1.out
  have c0 : w1.cell? ⟨g, o + a * 14, none⟩ = some (.int .i64 p.df) := cell_later HB1.out (HC.out 0 _ rfl)
  have c1 : w1.cell? ⟨g, o + a * 14 + 1, none⟩ = some (.int .i64 p.ak) := cell_later HB1.out (HC.out 1 _ rfl)
  have c2 : w1.cell? ⟨g, o + a * 14 + 2, none⟩ = some (.int .i64 p.gd) := cell_later HB1.out (HC.out 2 _ rfl)
  have c3 : w1.cell? ⟨g, o + a * 14 + 3, none⟩ = some (.int .u8 p.ow) := cell_later HB1.out (HC.out 3 _ rfl)
  have c4 : w1.cell? ⟨g, o + a * 14 + 4, none⟩ = some (.int .u8 p.hs) := cell_later HB1.out (HC.out 4 _ rfl)
  have c5 : w1.cell? ⟨g, o + a * 14 + 5, none⟩ = some (.int .u8 p.zn) := cell_later HB1.out (HC.out 5 _ rfl)
  have c6 : w1.cell? ⟨g, o + a * 14 + 6, none⟩ = some (.int .i64 p.pl) := cell_later HB1.out (HC.out 6 _ rfl)
  have c7 : w1.cell? ⟨g, o + a * 14 + 7, none⟩ = some (.bool p.up) := cell_later HB1.out (HC.out 7 _ rfl)
  have c8 : w1.cell? ⟨g, o + a * 14 + 8, none⟩ = some (.bool p.lw) := cell_later HB1.out (HC.out 8 _ rfl)
  have c9 : w1.cell? ⟨g, o + a * 14 + 9, none⟩ = some (.int .i64 p.sc) := cell_later HB1.out (HC.out 9 _ rfl)
  have c10 : w1.cell? ⟨g, o + a * 14 + 10, none⟩ = some (.int .u8 p.us) := cell_later HB1.out (HC.out 10 _ rfl)
  have c11 : w1.cell? ⟨g, o + a * 14 + 11, none⟩ = some (.bool p.sk) := cell_later HB1.out (HC.out 11 _ rfl)
  have c12 : w1.cell? ⟨g, o + a * 14 + 12, none⟩ = some (.bool p.tu) := cell_later HB1.out (HC.out 12 _ rfl)
  have c13 : w1.cell? ⟨g, o + a * 14 + 13, none⟩ = some (.int .i64 p.bo) := cell_later HB1.out (HC.out 13 _ rfl)
  simp only [pcV] at hrd
  go_wp2_with fail
  (with_reducible refine (hrd.out _).mono ?_)
  rintro e w2 ⟨rfl, b2⟩
  have HB2 := Lib.hid (HB1.out.trans (b2.mono HB1.out.size))
  have HX2 := Lib.hid ((b2.block _ (heap_lt HX1.out)).trans HX1.out)
  have HR2 := Lib.hid ((b2.block _ (heap_lt HR1.out)).trans HR1.out)
  have HH2 := Lib.hid ((b2.block _ (heap_lt HH1.out)).trans HH1.out)
  clear b2 y1 c0 c1 c2 c3 c4 c5 c6 c7 c8 c9 c10 c11 c12 c13 hlx1
  have y0 := cell_blk (i := 0) HX2.out
  have y1 := cell_blk (i := 1) HX2.out
  have y2 := cell_blk (i := 2) HX2.out
  have y3 := cell_blk (i := 3) HX2.out
  have y4 := cell_blk (i := 4) HX2.out
  have y5 := cell_blk (i := 5) HX2.out
  have y6 := cell_blk (i := 6) HX2.out
  have y7 := cell_blk (i := 7) HX2.out
  have y8 := cell_blk (i := 8) HX2.out
  have y9 := cell_blk (i := 9) HX2.out
  simp at y0 y1 y2 y3 y4 y5 y6 y7 y8 y9
  have hlx2 := heap_lt HX2.out
  have c4 : w2.cell? ⟨g, o + a * 14 + 4, none⟩ = some (.int .u8 p.hs) := cell_later HB2.out (HC.out 4 _ rfl)
  rw [HP.out] at c4
  go_wp2_with fail
  (with_reducible refine (hf.out _ HB2.out).mono ?_)
  rintro e w3 ⟨rfl, b3⟩
  have HB3 := Lib.hid (HB2.out.trans (b3.mono HB2.out.size))
  have HX3 := Lib.hid ((b3.block _ (heap_lt HX2.out)).trans HX2.out)
  have HR3 := Lib.hid ((b3.block _ (heap_lt HR2.out)).trans HR2.out)
  have HH3 := Lib.hid ((b3.block _ (heap_lt HH2.out)).trans HH2.out)
  clear b3 y0 y1 y2 y3 y4 y5 y6 y7 y8 y9 c4 hlx2
  have hlh3 := heap_lt HH3.out
  have z0 : w3.cell? ⟨w.heap.size + 1 + 1, 0, none⟩ = some (.int .i64 0) := cell_blk HH3.out
  have z1 : w3.cell? ⟨w.heap.size + 1 + 1, 1, none⟩ = some (.int .i64 0) := cell_blk HH3.out
  have hlr3 := heap_lt HR3.out
  have r0 : w3.cell? ⟨w.heap.size + 1, 0, none⟩ = some (.int .i64 0) := cell_blk HR3.out
  have r1 : w3.cell? ⟨w.heap.size + 1, 1, none⟩ = some (.int .i64 0) := cell_blk HR3.out
  have g0 := free_blk (i := 0) HH3.out
  have g1 := free_blk (i := 1) HH3.out
  have f0 := free_blk (i := 0) HR3.out
  have f1 := free_blk (i := 1) HR3.out
  go_wp2_with fail
  refine bodyPost_ret (results_cell_slot2 rfl _ _ _ (w.heap.size + 1) _ _ _ _ _ rfl (by (repeat (with_reducible refine heap_older ?_)); refine two_set1 (a0 := .int .i64 (0)) (a1 := .int .i64 0) (t := 24) _ ?_; refine two_set0 (a0 := .int .i64 0) (a1 := .int .i64 0) (t := 24) _ ?_; (repeat (first | (with_reducible exact HR3.out) | (with_reducible refine heap_older ?_) | (refine (heap_set_far (by show _ ≠ _; dsimp only; omega) _).trans ?_)))) Try.underlying24 (by kernel_rfl)) rfl ?_
  exact ⟨⟨_, rfl, IntsOwn.nil _ _⟩, (by repeat (first | (with_reducible exact HB3.out) | (with_reducible refine below_al ?_) | (refine Below.setCell ?_ (by show _ ≤ _; dsimp only; omega) _)))⟩

set_option maxHeartbeats 16000000 in
set_option maxRecDepth 100000 in
theorem rout_nobody1 (t : Tb) (a : Nat) (A : Int) (p : Pc) (w : World) (hm : ∀ W, Below w.heap.size w W → Calls Try.prog 17 #[.agg t.row] W fun e w' => e = .returned (.bool true) ∧ Below W.heap.size W w') (hpa : a < t.np ∧ ∃ g o, t.qp = some ⟨g, o, none⟩ ∧ g < w.heap.size ∧ ∀ (j : Nat) (u : Value), (pcV p)[j]? = some u → w.cell? ⟨g, o + a * 14 + j, none⟩ = some u) (hat : attB p = true) (h3 : ¬ ((-1) : Int) < -1) (h4 : ¬ ((-1) : Int) ≥ (t.np : Int)) (hA : 0 ≤ A ∧ A ≤ 99999) (hf : ∀ W, Below w.heap.size w W → Calls Try.prog 16 #[.agg t.row, .int .i64 a] W fun e w' => e = .returned (.int .i64 A) ∧ Below W.heap.size W w') (hh : p.hs = 1) :
    Calls Try.prog 10 #[.agg t.row, .int .i64 a, .int .i64 (-1)] w (OutEnds ((((A, 0), []) : FO)) 0 w) := by
  have HM := Lib.hid hm
  clear hm
  obtain ⟨hal, g, o, hq, hg, hc⟩ := hpa
  have HC := Lib.hid hc
  have hrd := Lib.hid fun W => rready_any p W
  have i0 : (0 : Int) ≤ (a : Int) := by omega
  have i1 : (a : Int) < (t.np : Int) := by omega
  have i2 : ¬ (a : Int) < 0 := by omega
  have i3 : ¬ (a : Int) ≥ (t.np : Int) := by omega
  clear hc
  have hf := Lib.hid hf
  rw [hat] at hrd
  have uw0 : IntKind.u8.wrap 0 = 0 := by kernel_rfl
  have uw1 : IntKind.u8.wrap 1 = 1 := by kernel_rfl
  have HP := Lib.hid hh
  clear hh
  obtain ⟨w0, hw0⟩ : ∃ w0, w0 = ((w.alloc (.cells t.row 28)).alloc (.cells #[.int .i64 0, .int .i64 0] 24)).alloc (.cells #[.int .i64 0, .int .i64 0] 24) := ⟨_, rfl⟩
  have hb0 : Below w.heap.size w w0 := by rw [hw0]; exact below_al (below_al (below_al (Below.refl _ _)))
  have hx0 : w0.heap[w.heap.size]? = some (.cells t.row 28 (0, 0)) := by rw [hw0]; exact heap_older (heap_older (heap_alloc_new _ _))
  have hr0 : w0.heap[w.heap.size + 1]? = some (.cells #[.int .i64 0, .int .i64 0] 24 (0, 0)) := by rw [hw0]; exact heap_older (heap_newer _ _ _ (by simp))
  have hh0 : w0.heap[w.heap.size + 1 + 1]? = some (.cells #[.int .i64 0, .int .i64 0] 24 (0, 0)) := by rw [hw0]; exact heap_newer _ _ _ (by simp)
  have HB0 := Lib.hid hb0
  have HX0 := Lib.hid hx0
  have HR0 := Lib.hid hr0
  have HH0 := Lib.hid hh0
  have HW0 := Lib.hid hw0
  clear hb0 hx0 hr0 hh0 hw0
  simp only [Tb.row] at *
  rw [hq] at HM hf HX0 HW0 ⊢
  clear hq
  go_enter Try.func10, Try.ntmps10
  go_wp2_with fail
  rw [← HW0.out]
  (with_reducible refine (HM.out _ HB0.out).mono ?_)
  rintro e w1 ⟨rfl, b1⟩
  have HB1 := Lib.hid (HB0.out.trans (b1.mono HB0.out.size))
  have HX1 := Lib.hid ((b1.block _ (heap_lt HX0.out)).trans HX0.out)
  have HR1 := Lib.hid ((b1.block _ (heap_lt HR0.out)).trans HR0.out)
  have HH1 := Lib.hid ((b1.block _ (heap_lt HH0.out)).trans HH0.out)
  clear b1
  have y1 := cell_blk (i := 1) HX1.out
  simp at y1
  have hlx1 := heap_lt HX1.out
  have c0 : w1.cell? ⟨g, o + a * 14, none⟩ = some (.int .i64 p.df) := cell_later HB1.out (HC.out 0 _ rfl)
  have c1 : w1.cell? ⟨g, o + a * 14 + 1, none⟩ = some (.int .i64 p.ak) := cell_later HB1.out (HC.out 1 _ rfl)
  have c2 : w1.cell? ⟨g, o + a * 14 + 2, none⟩ = some (.int .i64 p.gd) := cell_later HB1.out (HC.out 2 _ rfl)
  have c3 : w1.cell? ⟨g, o + a * 14 + 3, none⟩ = some (.int .u8 p.ow) := cell_later HB1.out (HC.out 3 _ rfl)
  have c4 : w1.cell? ⟨g, o + a * 14 + 4, none⟩ = some (.int .u8 p.hs) := cell_later HB1.out (HC.out 4 _ rfl)
  have c5 : w1.cell? ⟨g, o + a * 14 + 5, none⟩ = some (.int .u8 p.zn) := cell_later HB1.out (HC.out 5 _ rfl)
  have c6 : w1.cell? ⟨g, o + a * 14 + 6, none⟩ = some (.int .i64 p.pl) := cell_later HB1.out (HC.out 6 _ rfl)
  have c7 : w1.cell? ⟨g, o + a * 14 + 7, none⟩ = some (.bool p.up) := cell_later HB1.out (HC.out 7 _ rfl)
  have c8 : w1.cell? ⟨g, o + a * 14 + 8, none⟩ = some (.bool p.lw) := cell_later HB1.out (HC.out 8 _ rfl)
  have c9 : w1.cell? ⟨g, o + a * 14 + 9, none⟩ = some (.int .i64 p.sc) := cell_later HB1.out (HC.out 9 _ rfl)
  have c10 : w1.cell? ⟨g, o + a * 14 + 10, none⟩ = some (.int .u8 p.us) := cell_later HB1.out (HC.out 10 _ rfl)
  have c11 : w1.cell? ⟨g, o + a * 14 + 11, none⟩ = some (.bool p.sk) := cell_later HB1.out (HC.out 11 _ rfl)
  have c12 : w1.cell? ⟨g, o + a * 14 + 12, none⟩ = some (.bool p.tu) := cell_later HB1.out (HC.out 12 _ rfl)
  have c13 : w1.cell? ⟨g, o + a * 14 + 13, none⟩ = some (.int .i64 p.bo) := cell_later HB1.out (HC.out 13 _ rfl)
  simp only [pcV] at hrd
  go_wp2_with fail
  (with_reducible refine (hrd.out _).mono ?_)
  rintro e w2 ⟨rfl, b2⟩
  have HB2 := Lib.hid (HB1.out.trans (b2.mono HB1.out.size))
  have HX2 := Lib.hid ((b2.block _ (heap_lt HX1.out)).trans HX1.out)
  have HR2 := Lib.hid ((b2.block _ (heap_lt HR1.out)).trans HR1.out)
  have HH2 := Lib.hid ((b2.block _ (heap_lt HH1.out)).trans HH1.out)
  clear b2 y1 c0 c1 c2 c3 c4 c5 c6 c7 c8 c9 c10 c11 c12 c13 hlx1
  have y0 := cell_blk (i := 0) HX2.out
  have y1 := cell_blk (i := 1) HX2.out
  have y2 := cell_blk (i := 2) HX2.out
  have y3 := cell_blk (i := 3) HX2.out
  have y4 := cell_blk (i := 4) HX2.out
  have y5 := cell_blk (i := 5) HX2.out
  have y6 := cell_blk (i := 6) HX2.out
  have y7 := cell_blk (i := 7) HX2.out
  have y8 := cell_blk (i := 8) HX2.out
  have y9 := cell_blk (i := 9) HX2.out
  simp at y0 y1 y2 y3 y4 y5 y6 y7 y8 y9
  have hlx2 := heap_lt HX2.out
  have c4 : w2.cell? ⟨g, o + a * 14 + 4, none⟩ = some (.int .u8 p.hs) := cell_later HB2.out (HC.out 4 _ rfl)
  rw [HP.out] at c4
  go_wp2_with fail
  (with_reducible refine (hf.out _ HB2.out).mono ?_)
  rintro e w3 ⟨rfl, b3⟩
  have HB3 := Lib.hid (HB2.out.trans (b3.mono HB2.out.size))
  have HX3 := Lib.hid ((b3.block _ (heap_lt HX2.out)).trans HX2.out)
  have HR3 := Lib.hid ((b3.block _ (heap_lt HR2.out)).trans HR2.out)
  have HH3 := Lib.hid ((b3.block _ (heap_lt HH2.out)).trans HH2.out)
  clear b3 y0 y1 y2 y3 y4 y5 y6 y7 y8 y9 c4 hlx2
  have hlh3 := heap_lt HH3.out
  have z0 : w3.cell? ⟨w.heap.size + 1 + 1, 0, none⟩ = some (.int .i64 0) := cell_blk HH3.out
  have z1 : w3.cell? ⟨w.heap.size + 1 + 1, 1, none⟩ = some (.int .i64 0) := cell_blk HH3.out
  have hlr3 := heap_lt HR3.out
  have r0 : w3.cell? ⟨w.heap.size + 1, 0, none⟩ = some (.int .i64 0) := cell_blk HR3.out
  have r1 : w3.cell? ⟨w.heap.size + 1, 1, none⟩ = some (.int .i64 0) := cell_blk HR3.out
  have g0 := free_blk (i := 0) HH3.out
  have g1 := free_blk (i := 1) HH3.out
  have f0 := free_blk (i := 0) HR3.out
  have f1 := free_blk (i := 1) HR3.out
  go_wp2_with fail
  refine bodyPost_ret (results_cell_slot2 rfl _ _ _ (w.heap.size + 1) _ _ _ _ _ rfl (by (repeat (with_reducible refine heap_older ?_)); refine two_set1 (a0 := .int .i64 (A)) (a1 := .int .i64 0) (t := 24) _ ?_; refine two_set0 (a0 := .int .i64 0) (a1 := .int .i64 0) (t := 24) _ ?_; (repeat (first | (with_reducible exact HR3.out) | (with_reducible refine heap_older ?_) | (refine (heap_set_far (by show _ ≠ _; dsimp only; omega) _).trans ?_)))) Try.underlying24 (by kernel_rfl)) rfl ?_
  exact ⟨⟨_, rfl, IntsOwn.nil _ _⟩, (by repeat (first | (with_reducible exact HB3.out) | (with_reducible refine below_al ?_) | (refine Below.setCell ?_ (by show _ ≤ _; dsimp only; omega) _)))⟩

set_option maxHeartbeats 16000000 in
set_option maxRecDepth 100000 in
theorem rout_notarz (t : Tb) (a d : Nat) (A : Int) (p q : Pc) (w : World) (hm : ∀ W, Below w.heap.size w W → Calls Try.prog 17 #[.agg t.row] W fun e w' => e = .returned (.bool true) ∧ Below W.heap.size W w') (hpa : a < t.np ∧ ∃ g o, t.qp = some ⟨g, o, none⟩ ∧ g < w.heap.size ∧ ∀ (j : Nat) (u : Value), (pcV p)[j]? = some u → w.cell? ⟨g, o + a * 14 + j, none⟩ = some u) (hat : attB p = true) (h3 : ¬ (d : Int) < -1) (h4 : ¬ (d : Int) ≥ (t.np : Int)) (hA : 0 ≤ A ∧ A ≤ 99999) (hf : ∀ W, Below w.heap.size w W → Calls Try.prog 16 #[.agg t.row, .int .i64 a] W fun e w' => e = .returned (.int .i64 A) ∧ Below W.heap.size W w') (hpd : d < t.np ∧ ∃ g o, t.qp = some ⟨g, o, none⟩ ∧ g < w.heap.size ∧ ∀ (j : Nat) (u : Value), (pcV q)[j]? = some u → w.cell? ⟨g, o + d * 14 + j, none⟩ = some u) (hz : q.zn ≠ 2) :
    Calls Try.prog 10 #[.agg t.row, .int .i64 a, .int .i64 d] w (OutEnds ((((0, 0), []) : FO)) 2 w) := by
  have HM := Lib.hid hm
  clear hm
  obtain ⟨hal, g, o, hq, hg, hc⟩ := hpa
  have HC := Lib.hid hc
  have hrd := Lib.hid fun W => rready_any p W
  have i0 : (0 : Int) ≤ (a : Int) := by omega
  have i1 : (a : Int) < (t.np : Int) := by omega
  have i2 : ¬ (a : Int) < 0 := by omega
  have i3 : ¬ (a : Int) ≥ (t.np : Int) := by omega
  clear hc
  have hf := Lib.hid hf
  rw [hat] at hrd
  obtain ⟨hdl, g', o', hq', hg', hd⟩ := hpd
  rw [hq, Option.some.injEq, Addr.mk.injEq] at hq'
  obtain ⟨rfl, rfl, -⟩ := hq'
  have HD := Lib.hid hd
  have j0 : (0 : Int) ≤ (d : Int) := by omega
  have j1 : (d : Int) < (t.np : Int) := by omega
  have dn : ((d : Int) == -1) = false := by first | (simp; done) | (simp; omega)
  have uw0 : IntKind.u8.wrap 0 = 0 := by kernel_rfl
  have uw1 : IntKind.u8.wrap 1 = 1 := by kernel_rfl
  clear hd
  have t1 : ((q.zn : Int) != 2) = true := by simp; omega
  clear hz
  obtain ⟨w0, hw0⟩ : ∃ w0, w0 = ((w.alloc (.cells t.row 28)).alloc (.cells #[.int .i64 0, .int .i64 0] 24)).alloc (.cells #[.int .i64 0, .int .i64 0] 24) := ⟨_, rfl⟩
  have hb0 : Below w.heap.size w w0 := by rw [hw0]; exact below_al (below_al (below_al (Below.refl _ _)))
  have hx0 : w0.heap[w.heap.size]? = some (.cells t.row 28 (0, 0)) := by rw [hw0]; exact heap_older (heap_older (heap_alloc_new _ _))
  have hr0 : w0.heap[w.heap.size + 1]? = some (.cells #[.int .i64 0, .int .i64 0] 24 (0, 0)) := by rw [hw0]; exact heap_older (heap_newer _ _ _ (by simp))
  have hh0 : w0.heap[w.heap.size + 1 + 1]? = some (.cells #[.int .i64 0, .int .i64 0] 24 (0, 0)) := by rw [hw0]; exact heap_newer _ _ _ (by simp)
  have HB0 := Lib.hid hb0
  have HX0 := Lib.hid hx0
  have HR0 := Lib.hid hr0
  have HH0 := Lib.hid hh0
  have HW0 := Lib.hid hw0
  clear hb0 hx0 hr0 hh0 hw0
  simp only [Tb.row] at *
  rw [hq] at HM hf HX0 HW0 ⊢
  clear hq
  go_enter Try.func10, Try.ntmps10
  go_wp2_with fail
  rw [← HW0.out]
  (with_reducible refine (HM.out _ HB0.out).mono ?_)
  rintro e w1 ⟨rfl, b1⟩
  have HB1 := Lib.hid (HB0.out.trans (b1.mono HB0.out.size))
  have HX1 := Lib.hid ((b1.block _ (heap_lt HX0.out)).trans HX0.out)
  have HR1 := Lib.hid ((b1.block _ (heap_lt HR0.out)).trans HR0.out)
  have HH1 := Lib.hid ((b1.block _ (heap_lt HH0.out)).trans HH0.out)
  clear b1
  have y1 := cell_blk (i := 1) HX1.out
  simp at y1
  have hlx1 := heap_lt HX1.out
  have c0 : w1.cell? ⟨g, o + a * 14, none⟩ = some (.int .i64 p.df) := cell_later HB1.out (HC.out 0 _ rfl)
  have c1 : w1.cell? ⟨g, o + a * 14 + 1, none⟩ = some (.int .i64 p.ak) := cell_later HB1.out (HC.out 1 _ rfl)
  have c2 : w1.cell? ⟨g, o + a * 14 + 2, none⟩ = some (.int .i64 p.gd) := cell_later HB1.out (HC.out 2 _ rfl)
  have c3 : w1.cell? ⟨g, o + a * 14 + 3, none⟩ = some (.int .u8 p.ow) := cell_later HB1.out (HC.out 3 _ rfl)
  have c4 : w1.cell? ⟨g, o + a * 14 + 4, none⟩ = some (.int .u8 p.hs) := cell_later HB1.out (HC.out 4 _ rfl)
  have c5 : w1.cell? ⟨g, o + a * 14 + 5, none⟩ = some (.int .u8 p.zn) := cell_later HB1.out (HC.out 5 _ rfl)
  have c6 : w1.cell? ⟨g, o + a * 14 + 6, none⟩ = some (.int .i64 p.pl) := cell_later HB1.out (HC.out 6 _ rfl)
  have c7 : w1.cell? ⟨g, o + a * 14 + 7, none⟩ = some (.bool p.up) := cell_later HB1.out (HC.out 7 _ rfl)
  have c8 : w1.cell? ⟨g, o + a * 14 + 8, none⟩ = some (.bool p.lw) := cell_later HB1.out (HC.out 8 _ rfl)
  have c9 : w1.cell? ⟨g, o + a * 14 + 9, none⟩ = some (.int .i64 p.sc) := cell_later HB1.out (HC.out 9 _ rfl)
  have c10 : w1.cell? ⟨g, o + a * 14 + 10, none⟩ = some (.int .u8 p.us) := cell_later HB1.out (HC.out 10 _ rfl)
  have c11 : w1.cell? ⟨g, o + a * 14 + 11, none⟩ = some (.bool p.sk) := cell_later HB1.out (HC.out 11 _ rfl)
  have c12 : w1.cell? ⟨g, o + a * 14 + 12, none⟩ = some (.bool p.tu) := cell_later HB1.out (HC.out 12 _ rfl)
  have c13 : w1.cell? ⟨g, o + a * 14 + 13, none⟩ = some (.int .i64 p.bo) := cell_later HB1.out (HC.out 13 _ rfl)
  simp only [pcV] at hrd
  go_wp2_with fail
  (with_reducible refine (hrd.out _).mono ?_)
  rintro e w2 ⟨rfl, b2⟩
  have HB2 := Lib.hid (HB1.out.trans (b2.mono HB1.out.size))
  have HX2 := Lib.hid ((b2.block _ (heap_lt HX1.out)).trans HX1.out)
  have HR2 := Lib.hid ((b2.block _ (heap_lt HR1.out)).trans HR1.out)
  have HH2 := Lib.hid ((b2.block _ (heap_lt HH1.out)).trans HH1.out)
  clear b2 y1 c0 c1 c2 c3 c4 c5 c6 c7 c8 c9 c10 c11 c12 c13 hlx1
  have y0 := cell_blk (i := 0) HX2.out
  have y1 := cell_blk (i := 1) HX2.out
  have y2 := cell_blk (i := 2) HX2.out
  have y3 := cell_blk (i := 3) HX2.out
  have y4 := cell_blk (i := 4) HX2.out
  have y5 := cell_blk (i := 5) HX2.out
  have y6 := cell_blk (i := 6) HX2.out
  have y7 := cell_blk (i := 7) HX2.out
  have y8 := cell_blk (i := 8) HX2.out
  have y9 := cell_blk (i := 9) HX2.out
  simp at y0 y1 y2 y3 y4 y5 y6 y7 y8 y9
  have hlx2 := heap_lt HX2.out
  have c4 : w2.cell? ⟨g, o + a * 14 + 4, none⟩ = some (.int .u8 p.hs) := cell_later HB2.out (HC.out 4 _ rfl)
  go_wp2_with fail
  (with_reducible refine (hf.out _ HB2.out).mono ?_)
  rintro e w3 ⟨rfl, b3⟩
  have HB3 := Lib.hid (HB2.out.trans (b3.mono HB2.out.size))
  have HX3 := Lib.hid ((b3.block _ (heap_lt HX2.out)).trans HX2.out)
  have HR3 := Lib.hid ((b3.block _ (heap_lt HR2.out)).trans HR2.out)
  have HH3 := Lib.hid ((b3.block _ (heap_lt HH2.out)).trans HH2.out)
  clear b3 y0 y1 y2 y3 y4 y5 y6 y7 y8 y9 c4 hlx2
  have y0 := cell_blk (i := 0) HX3.out
  have y1 := cell_blk (i := 1) HX3.out
  have y2 := cell_blk (i := 2) HX3.out
  have y3 := cell_blk (i := 3) HX3.out
  have y4 := cell_blk (i := 4) HX3.out
  have y5 := cell_blk (i := 5) HX3.out
  have y6 := cell_blk (i := 6) HX3.out
  have y7 := cell_blk (i := 7) HX3.out
  have y8 := cell_blk (i := 8) HX3.out
  have y9 := cell_blk (i := 9) HX3.out
  simp at y0 y1 y2 y3 y4 y5 y6 y7 y8 y9
  have hlx3 := heap_lt HX3.out
  have hg3 : g < w3.heap.size := Nat.lt_of_lt_of_le hg HB3.out.size
  have e0 : w3.cell? ⟨g, o + d * 14, none⟩ = some (.int .i64 q.df) := cell_later HB3.out (HD.out 0 _ rfl)
  have e1 : w3.cell? ⟨g, o + d * 14 + 1, none⟩ = some (.int .i64 q.ak) := cell_later HB3.out (HD.out 1 _ rfl)
  have e2 : w3.cell? ⟨g, o + d * 14 + 2, none⟩ = some (.int .i64 q.gd) := cell_later HB3.out (HD.out 2 _ rfl)
  have e3 : w3.cell? ⟨g, o + d * 14 + 3, none⟩ = some (.int .u8 q.ow) := cell_later HB3.out (HD.out 3 _ rfl)
  have e4 : w3.cell? ⟨g, o + d * 14 + 4, none⟩ = some (.int .u8 q.hs) := cell_later HB3.out (HD.out 4 _ rfl)
  have e5 : w3.cell? ⟨g, o + d * 14 + 5, none⟩ = some (.int .u8 q.zn) := cell_later HB3.out (HD.out 5 _ rfl)
  have e6 : w3.cell? ⟨g, o + d * 14 + 6, none⟩ = some (.int .i64 q.pl) := cell_later HB3.out (HD.out 6 _ rfl)
  have e7 : w3.cell? ⟨g, o + d * 14 + 7, none⟩ = some (.bool q.up) := cell_later HB3.out (HD.out 7 _ rfl)
  have e8 : w3.cell? ⟨g, o + d * 14 + 8, none⟩ = some (.bool q.lw) := cell_later HB3.out (HD.out 8 _ rfl)
  have e9 : w3.cell? ⟨g, o + d * 14 + 9, none⟩ = some (.int .i64 q.sc) := cell_later HB3.out (HD.out 9 _ rfl)
  have e10 : w3.cell? ⟨g, o + d * 14 + 10, none⟩ = some (.int .u8 q.us) := cell_later HB3.out (HD.out 10 _ rfl)
  have e11 : w3.cell? ⟨g, o + d * 14 + 11, none⟩ = some (.bool q.sk) := cell_later HB3.out (HD.out 11 _ rfl)
  have e12 : w3.cell? ⟨g, o + d * 14 + 12, none⟩ = some (.bool q.tu) := cell_later HB3.out (HD.out 12 _ rfl)
  have e13 : w3.cell? ⟨g, o + d * 14 + 13, none⟩ = some (.int .i64 q.bo) := cell_later HB3.out (HD.out 13 _ rfl)
  obtain ⟨w4, hw4⟩ : ∃ w4, w4 = w3.alloc (.cells (pcV q).toArray 45) := ⟨_, rfl⟩
  have HR4 : Hid (w4.heap[w.heap.size + 1]? = some _) := Lib.hid (by rw [hw4]; exact heap_older HR3.out)
  have HH4 : Hid (w4.heap[w.heap.size + 1 + 1]? = some _) := Lib.hid (by rw [hw4]; exact heap_older HH3.out)
  have HB4 : Hid (Below w.heap.size w w4) := Lib.hid (by rw [hw4]; exact below_al HB3.out)
  have hls : w.heap.size + 1 + 1 < w3.heap.size := heap_lt HH3.out
  have HW4 := Lib.hid hw4
  clear hw4
  simp only [pcV] at HW4
  have hlh3 := heap_lt HH3.out
  have z0 : w3.cell? ⟨w.heap.size + 1 + 1, 0, none⟩ = some (.int .i64 0) := cell_blk HH3.out
  have z1 : w3.cell? ⟨w.heap.size + 1 + 1, 1, none⟩ = some (.int .i64 0) := cell_blk HH3.out
  have hlr3 := heap_lt HR3.out
  have r0 : w3.cell? ⟨w.heap.size + 1, 0, none⟩ = some (.int .i64 0) := cell_blk HR3.out
  have r1 : w3.cell? ⟨w.heap.size + 1, 1, none⟩ = some (.int .i64 0) := cell_blk HR3.out
  have g0 := free_blk (i := 0) HH3.out
  have g1 := free_blk (i := 1) HH3.out
  have f0 := free_blk (i := 0) HR3.out
  have f1 := free_blk (i := 1) HR3.out
  go_wp2_with fail
  refine bodyPost_ret (results_cell_slot2 rfl _ _ _ (w.heap.size + 1) _ _ _ _ _ rfl (by (repeat (with_reducible refine heap_older ?_)); refine two_set1 (a0 := .int .i64 (0)) (a1 := .int .i64 0) (t := 24) _ ?_; refine two_set0 (a0 := .int .i64 0) (a1 := .int .i64 0) (t := 24) _ ?_; (repeat (first | (with_reducible exact HR3.out) | (with_reducible refine heap_older ?_) | (refine (heap_set_far (by show _ ≠ _; dsimp only; omega) _).trans ?_)))) Try.underlying24 (by kernel_rfl)) rfl ?_
  exact ⟨⟨_, rfl, IntsOwn.nil _ _⟩, (by repeat (first | (with_reducible exact HB3.out) | (with_reducible refine below_al ?_) | (refine Below.setCell ?_ (by show _ ≤ _; dsimp only; omega) _)))⟩

set_option maxHeartbeats 16000000 in
set_option maxRecDepth 100000 in
theorem rout_notarh (t : Tb) (a d : Nat) (A : Int) (p q : Pc) (w : World) (hm : ∀ W, Below w.heap.size w W → Calls Try.prog 17 #[.agg t.row] W fun e w' => e = .returned (.bool true) ∧ Below W.heap.size W w') (hpa : a < t.np ∧ ∃ g o, t.qp = some ⟨g, o, none⟩ ∧ g < w.heap.size ∧ ∀ (j : Nat) (u : Value), (pcV p)[j]? = some u → w.cell? ⟨g, o + a * 14 + j, none⟩ = some u) (hat : attB p = true) (h3 : ¬ (d : Int) < -1) (h4 : ¬ (d : Int) ≥ (t.np : Int)) (hA : 0 ≤ A ∧ A ≤ 99999) (hf : ∀ W, Below w.heap.size w W → Calls Try.prog 16 #[.agg t.row, .int .i64 a] W fun e w' => e = .returned (.int .i64 A) ∧ Below W.heap.size W w') (hpd : d < t.np ∧ ∃ g o, t.qp = some ⟨g, o, none⟩ ∧ g < w.heap.size ∧ ∀ (j : Nat) (u : Value), (pcV q)[j]? = some u → w.cell? ⟨g, o + d * 14 + j, none⟩ = some u) (hz : q.zn = 2) (hsame : q.hs = p.hs) :
    Calls Try.prog 10 #[.agg t.row, .int .i64 a, .int .i64 d] w (OutEnds ((((0, 0), []) : FO)) 2 w) := by
  have HM := Lib.hid hm
  clear hm
  obtain ⟨hal, g, o, hq, hg, hc⟩ := hpa
  have HC := Lib.hid hc
  have hrd := Lib.hid fun W => rready_any p W
  have i0 : (0 : Int) ≤ (a : Int) := by omega
  have i1 : (a : Int) < (t.np : Int) := by omega
  have i2 : ¬ (a : Int) < 0 := by omega
  have i3 : ¬ (a : Int) ≥ (t.np : Int) := by omega
  clear hc
  have hf := Lib.hid hf
  rw [hat] at hrd
  obtain ⟨hdl, g', o', hq', hg', hd⟩ := hpd
  rw [hq, Option.some.injEq, Addr.mk.injEq] at hq'
  obtain ⟨rfl, rfl, -⟩ := hq'
  have HD := Lib.hid hd
  have j0 : (0 : Int) ≤ (d : Int) := by omega
  have j1 : (d : Int) < (t.np : Int) := by omega
  have dn : ((d : Int) == -1) = false := by first | (simp; done) | (simp; omega)
  have uw0 : IntKind.u8.wrap 0 = 0 := by kernel_rfl
  have uw1 : IntKind.u8.wrap 1 = 1 := by kernel_rfl
  clear hd
  have t1 : ((q.zn : Int) != 2) = false := by simp [hz]
  have t2 : ((q.hs : Int) == (p.hs : Int)) = true := by simp [hsame]
  clear hz hsame
  obtain ⟨w0, hw0⟩ : ∃ w0, w0 = ((w.alloc (.cells t.row 28)).alloc (.cells #[.int .i64 0, .int .i64 0] 24)).alloc (.cells #[.int .i64 0, .int .i64 0] 24) := ⟨_, rfl⟩
  have hb0 : Below w.heap.size w w0 := by rw [hw0]; exact below_al (below_al (below_al (Below.refl _ _)))
  have hx0 : w0.heap[w.heap.size]? = some (.cells t.row 28 (0, 0)) := by rw [hw0]; exact heap_older (heap_older (heap_alloc_new _ _))
  have hr0 : w0.heap[w.heap.size + 1]? = some (.cells #[.int .i64 0, .int .i64 0] 24 (0, 0)) := by rw [hw0]; exact heap_older (heap_newer _ _ _ (by simp))
  have hh0 : w0.heap[w.heap.size + 1 + 1]? = some (.cells #[.int .i64 0, .int .i64 0] 24 (0, 0)) := by rw [hw0]; exact heap_newer _ _ _ (by simp)
  have HB0 := Lib.hid hb0
  have HX0 := Lib.hid hx0
  have HR0 := Lib.hid hr0
  have HH0 := Lib.hid hh0
  have HW0 := Lib.hid hw0
  clear hb0 hx0 hr0 hh0 hw0
  simp only [Tb.row] at *
  rw [hq] at HM hf HX0 HW0 ⊢
  clear hq
  go_enter Try.func10, Try.ntmps10
  go_wp2_with fail
  rw [← HW0.out]
  (with_reducible refine (HM.out _ HB0.out).mono ?_)
  rintro e w1 ⟨rfl, b1⟩
  have HB1 := Lib.hid (HB0.out.trans (b1.mono HB0.out.size))
  have HX1 := Lib.hid ((b1.block _ (heap_lt HX0.out)).trans HX0.out)
  have HR1 := Lib.hid ((b1.block _ (heap_lt HR0.out)).trans HR0.out)
  have HH1 := Lib.hid ((b1.block _ (heap_lt HH0.out)).trans HH0.out)
  clear b1
  have y1 := cell_blk (i := 1) HX1.out
  simp at y1
  have hlx1 := heap_lt HX1.out
  have c0 : w1.cell? ⟨g, o + a * 14, none⟩ = some (.int .i64 p.df) := cell_later HB1.out (HC.out 0 _ rfl)
  have c1 : w1.cell? ⟨g, o + a * 14 + 1, none⟩ = some (.int .i64 p.ak) := cell_later HB1.out (HC.out 1 _ rfl)
  have c2 : w1.cell? ⟨g, o + a * 14 + 2, none⟩ = some (.int .i64 p.gd) := cell_later HB1.out (HC.out 2 _ rfl)
  have c3 : w1.cell? ⟨g, o + a * 14 + 3, none⟩ = some (.int .u8 p.ow) := cell_later HB1.out (HC.out 3 _ rfl)
  have c4 : w1.cell? ⟨g, o + a * 14 + 4, none⟩ = some (.int .u8 p.hs) := cell_later HB1.out (HC.out 4 _ rfl)
  have c5 : w1.cell? ⟨g, o + a * 14 + 5, none⟩ = some (.int .u8 p.zn) := cell_later HB1.out (HC.out 5 _ rfl)
  have c6 : w1.cell? ⟨g, o + a * 14 + 6, none⟩ = some (.int .i64 p.pl) := cell_later HB1.out (HC.out 6 _ rfl)
  have c7 : w1.cell? ⟨g, o + a * 14 + 7, none⟩ = some (.bool p.up) := cell_later HB1.out (HC.out 7 _ rfl)
  have c8 : w1.cell? ⟨g, o + a * 14 + 8, none⟩ = some (.bool p.lw) := cell_later HB1.out (HC.out 8 _ rfl)
  have c9 : w1.cell? ⟨g, o + a * 14 + 9, none⟩ = some (.int .i64 p.sc) := cell_later HB1.out (HC.out 9 _ rfl)
  have c10 : w1.cell? ⟨g, o + a * 14 + 10, none⟩ = some (.int .u8 p.us) := cell_later HB1.out (HC.out 10 _ rfl)
  have c11 : w1.cell? ⟨g, o + a * 14 + 11, none⟩ = some (.bool p.sk) := cell_later HB1.out (HC.out 11 _ rfl)
  have c12 : w1.cell? ⟨g, o + a * 14 + 12, none⟩ = some (.bool p.tu) := cell_later HB1.out (HC.out 12 _ rfl)
  have c13 : w1.cell? ⟨g, o + a * 14 + 13, none⟩ = some (.int .i64 p.bo) := cell_later HB1.out (HC.out 13 _ rfl)
  simp only [pcV] at hrd
  go_wp2_with fail
  (with_reducible refine (hrd.out _).mono ?_)
  rintro e w2 ⟨rfl, b2⟩
  have HB2 := Lib.hid (HB1.out.trans (b2.mono HB1.out.size))
  have HX2 := Lib.hid ((b2.block _ (heap_lt HX1.out)).trans HX1.out)
  have HR2 := Lib.hid ((b2.block _ (heap_lt HR1.out)).trans HR1.out)
  have HH2 := Lib.hid ((b2.block _ (heap_lt HH1.out)).trans HH1.out)
  clear b2 y1 c0 c1 c2 c3 c4 c5 c6 c7 c8 c9 c10 c11 c12 c13 hlx1
  have y0 := cell_blk (i := 0) HX2.out
  have y1 := cell_blk (i := 1) HX2.out
  have y2 := cell_blk (i := 2) HX2.out
  have y3 := cell_blk (i := 3) HX2.out
  have y4 := cell_blk (i := 4) HX2.out
  have y5 := cell_blk (i := 5) HX2.out
  have y6 := cell_blk (i := 6) HX2.out
  have y7 := cell_blk (i := 7) HX2.out
  have y8 := cell_blk (i := 8) HX2.out
  have y9 := cell_blk (i := 9) HX2.out
  simp at y0 y1 y2 y3 y4 y5 y6 y7 y8 y9
  have hlx2 := heap_lt HX2.out
  have c4 : w2.cell? ⟨g, o + a * 14 + 4, none⟩ = some (.int .u8 p.hs) := cell_later HB2.out (HC.out 4 _ rfl)
  go_wp2_with fail
  (with_reducible refine (hf.out _ HB2.out).mono ?_)
  rintro e w3 ⟨rfl, b3⟩
  have HB3 := Lib.hid (HB2.out.trans (b3.mono HB2.out.size))
  have HX3 := Lib.hid ((b3.block _ (heap_lt HX2.out)).trans HX2.out)
  have HR3 := Lib.hid ((b3.block _ (heap_lt HR2.out)).trans HR2.out)
  have HH3 := Lib.hid ((b3.block _ (heap_lt HH2.out)).trans HH2.out)
  clear b3 y0 y1 y2 y3 y4 y5 y6 y7 y8 y9 c4 hlx2
  have y0 := cell_blk (i := 0) HX3.out
  have y1 := cell_blk (i := 1) HX3.out
  have y2 := cell_blk (i := 2) HX3.out
  have y3 := cell_blk (i := 3) HX3.out
  have y4 := cell_blk (i := 4) HX3.out
  have y5 := cell_blk (i := 5) HX3.out
  have y6 := cell_blk (i := 6) HX3.out
  have y7 := cell_blk (i := 7) HX3.out
  have y8 := cell_blk (i := 8) HX3.out
  have y9 := cell_blk (i := 9) HX3.out
  simp at y0 y1 y2 y3 y4 y5 y6 y7 y8 y9
  have hlx3 := heap_lt HX3.out
  have hg3 : g < w3.heap.size := Nat.lt_of_lt_of_le hg HB3.out.size
  have e0 : w3.cell? ⟨g, o + d * 14, none⟩ = some (.int .i64 q.df) := cell_later HB3.out (HD.out 0 _ rfl)
  have e1 : w3.cell? ⟨g, o + d * 14 + 1, none⟩ = some (.int .i64 q.ak) := cell_later HB3.out (HD.out 1 _ rfl)
  have e2 : w3.cell? ⟨g, o + d * 14 + 2, none⟩ = some (.int .i64 q.gd) := cell_later HB3.out (HD.out 2 _ rfl)
  have e3 : w3.cell? ⟨g, o + d * 14 + 3, none⟩ = some (.int .u8 q.ow) := cell_later HB3.out (HD.out 3 _ rfl)
  have e4 : w3.cell? ⟨g, o + d * 14 + 4, none⟩ = some (.int .u8 q.hs) := cell_later HB3.out (HD.out 4 _ rfl)
  have e5 : w3.cell? ⟨g, o + d * 14 + 5, none⟩ = some (.int .u8 q.zn) := cell_later HB3.out (HD.out 5 _ rfl)
  have e6 : w3.cell? ⟨g, o + d * 14 + 6, none⟩ = some (.int .i64 q.pl) := cell_later HB3.out (HD.out 6 _ rfl)
  have e7 : w3.cell? ⟨g, o + d * 14 + 7, none⟩ = some (.bool q.up) := cell_later HB3.out (HD.out 7 _ rfl)
  have e8 : w3.cell? ⟨g, o + d * 14 + 8, none⟩ = some (.bool q.lw) := cell_later HB3.out (HD.out 8 _ rfl)
  have e9 : w3.cell? ⟨g, o + d * 14 + 9, none⟩ = some (.int .i64 q.sc) := cell_later HB3.out (HD.out 9 _ rfl)
  have e10 : w3.cell? ⟨g, o + d * 14 + 10, none⟩ = some (.int .u8 q.us) := cell_later HB3.out (HD.out 10 _ rfl)
  have e11 : w3.cell? ⟨g, o + d * 14 + 11, none⟩ = some (.bool q.sk) := cell_later HB3.out (HD.out 11 _ rfl)
  have e12 : w3.cell? ⟨g, o + d * 14 + 12, none⟩ = some (.bool q.tu) := cell_later HB3.out (HD.out 12 _ rfl)
  have e13 : w3.cell? ⟨g, o + d * 14 + 13, none⟩ = some (.int .i64 q.bo) := cell_later HB3.out (HD.out 13 _ rfl)
  obtain ⟨w4, hw4⟩ : ∃ w4, w4 = w3.alloc (.cells (pcV q).toArray 45) := ⟨_, rfl⟩
  have HR4 : Hid (w4.heap[w.heap.size + 1]? = some _) := Lib.hid (by rw [hw4]; exact heap_older HR3.out)
  have HH4 : Hid (w4.heap[w.heap.size + 1 + 1]? = some _) := Lib.hid (by rw [hw4]; exact heap_older HH3.out)
  have HB4 : Hid (Below w.heap.size w w4) := Lib.hid (by rw [hw4]; exact below_al HB3.out)
  have hls : w.heap.size + 1 + 1 < w3.heap.size := heap_lt HH3.out
  have HW4 := Lib.hid hw4
  clear hw4
  simp only [pcV] at HW4
  have hlh3 := heap_lt HH3.out
  have z0 : w3.cell? ⟨w.heap.size + 1 + 1, 0, none⟩ = some (.int .i64 0) := cell_blk HH3.out
  have z1 : w3.cell? ⟨w.heap.size + 1 + 1, 1, none⟩ = some (.int .i64 0) := cell_blk HH3.out
  have hlr3 := heap_lt HR3.out
  have r0 : w3.cell? ⟨w.heap.size + 1, 0, none⟩ = some (.int .i64 0) := cell_blk HR3.out
  have r1 : w3.cell? ⟨w.heap.size + 1, 1, none⟩ = some (.int .i64 0) := cell_blk HR3.out
  have g0 := free_blk (i := 0) HH3.out
  have g1 := free_blk (i := 1) HH3.out
  have f0 := free_blk (i := 0) HR3.out
  have f1 := free_blk (i := 1) HR3.out
  go_wp2_with fail
  refine bodyPost_ret (results_cell_slot2 rfl _ _ _ (w.heap.size + 1) _ _ _ _ _ rfl (by (repeat (with_reducible refine heap_older ?_)); refine two_set1 (a0 := .int .i64 (0)) (a1 := .int .i64 0) (t := 24) _ ?_; refine two_set0 (a0 := .int .i64 0) (a1 := .int .i64 0) (t := 24) _ ?_; (repeat (first | (with_reducible exact HR3.out) | (with_reducible refine heap_older ?_) | (refine (heap_set_far (by show _ ≠ _; dsimp only; omega) _).trans ?_)))) Try.underlying24 (by kernel_rfl)) rfl ?_
  exact ⟨⟨_, rfl, IntsOwn.nil _ _⟩, (by repeat (first | (with_reducible exact HB3.out) | (with_reducible refine below_al ?_) | (refine Below.setCell ?_ (by show _ ≤ _; dsimp only; omega) _)))⟩

end Go.Proofs.Ytfdehhibgdeedaa
