import Derived.Test.YtmhpopkbmnhkkaaGreatDoorQRpStp0
/- joustref02: steps, by their words (C). -/
namespace Go.Proofs.YtmhpopkbmnhkkaaGreatDoor
open Go.RowKit Go.Lib

set_option maxHeartbeats 8000000 in
set_option maxRecDepth 100000 in
theorem rstep_4 (E : REnv) (s : RS) (w : World) (hL : oneK E s stepsW = 4) (h : RR w E s) :
    Calls Tryz.prog 132 #[.pointer (some ⟨E.R, 0, none⟩)] w (RStEnds (pStep E.ts) E s w) := by
  have HE := Lib.hid h.both
  have GG := Lib.hid (RGoes.start h)
  have hlt := h.lt
  rw [← step_same]
  clear h
  go_enter Tryz.func132, Tryz.ntmps132
  go_wp2_with fail
  refine (rSteps_any E.R _ (by simp; omega)).mono ?_
  rintro e w1 ⟨v1, rfl, hv1, b1⟩
  have HV := Lib.hid hv1
  obtain ⟨wa, wn, wc, rfl⟩ := hv1.form
  have HB : Hid (w1.heap[w.heap.size]? = some (.cells #[.int .u8 0, .int .u8 0, .int .u8 0, .int .i64 0, .int .u8 0, .int .u8 0, .int .u8 0, .int .u8 0, .slice none 0 0, .bool false, .int .u8 0, .int .u8 0, .int .u8 0] 58 (0, 0))) := by refine (b1.block _ (by simp)).trans ?_; exact heap_alloc_new _ _
  replace GG := Lib.hid (RGoes.below (w := w) (E := E) (s := s) (by repeat (first | (with_reducible exact GG.out) | (with_reducible refine RGoes.alloc ?_ _) | (with_reducible refine RGoes.drew ?_) | ((with_reducible refine RGoes.store ?_ HE.out ?_ _); rotate_left; focus (first | (simp; done) | (simp; omega) | omega)))) b1)
  have sz1 : w.heap.size < w1.heap.size := heap_lt HB.out
  clear b1 hv1
  go_wp2_with fail
  refine (rone_k E s _ _ stepsW wdy_steps HV.out (RGoes.rd (w := w) (by repeat (first | (with_reducible exact GG.out) | (with_reducible refine RGoes.alloc ?_ _) | (with_reducible refine RGoes.drew ?_) | ((with_reducible refine RGoes.store ?_ HE.out ?_ _); rotate_left; focus (first | (simp; done) | (simp; omega) | omega)))))).mono ?_
  rintro e w2 ⟨s2, rfl, r2, l2, g2⟩
  replace HB := Lib.hid (g2.kept.heap (k := w.heap.size) (by omega) HB.out)
  replace GG := Lib.hid (RGoes.trans (w := w) (E := E) (s := s) (by repeat (first | (with_reducible exact GG.out) | (with_reducible refine RGoes.alloc ?_ _) | (with_reducible refine RGoes.drew ?_) | ((with_reducible refine RGoes.store ?_ HE.out ?_ _); rotate_left; focus (first | (simp; done) | (simp; omega) | omega)))) g2)
  have sz2 : w.heap.size < w2.heap.size := heap_lt HB.out
  rw [hL] at r2 ⊢
  have R2 := Lib.hid r2
  clear r2 l2 g2 HV hL
  rw [show ((4 : Nat) : Int) = 4 from rfl]
  have M := Lib.hid (Mid.new GG.out HB.out (#[.int .u8 4, .int .u8 0, .int .u8 0, .int .i64 0, .int .u8 0, .int .u8 0, .int .u8 0, .int .u8 0, .slice none 0 0, .bool false, .int .u8 0, .int .u8 0, .int .u8 0]))
  clear HB GG
  have cX := M.out.loc
  have cx0 := cell_blk (i := 0) cX
  have cx1 := cell_blk (i := 1) cX
  have cx2 := cell_blk (i := 2) cX
  have cx3 := cell_blk (i := 3) cX
  have cx4 := cell_blk (i := 4) cX
  have cx5 := cell_blk (i := 5) cX
  have cx6 := cell_blk (i := 6) cX
  have cx7 := cell_blk (i := 7) cX
  have cx8 := cell_blk (i := 8) cX
  have cx9 := cell_blk (i := 9) cX
  have cx10 := cell_blk (i := 10) cX
  have cx11 := cell_blk (i := 11) cX
  have cx12 := cell_blk (i := 12) cX
  have cxf0 := free_blk (i := 0) cX
  have cxf1 := free_blk (i := 1) cX
  have cxf2 := free_blk (i := 2) cX
  have cxf3 := free_blk (i := 3) cX
  have cxf4 := free_blk (i := 4) cX
  have cxf5 := free_blk (i := 5) cX
  have cxf6 := free_blk (i := 6) cX
  have cxf7 := free_blk (i := 7) cX
  have cxf8 := free_blk (i := 8) cX
  have cxf9 := free_blk (i := 9) cX
  have cxf10 := free_blk (i := 10) cX
  have cxf11 := free_blk (i := 11) cX
  have cxf12 := free_blk (i := 12) cX
  simp at cx0 cx1 cx2 cx3 cx4 cx5 cx6 cx7 cx8 cx9 cx10 cx11 cx12
  go_wp2_with fail
  refine (rmaybe_any E s2 _ ⟨4, 0, .zero, false, .zero⟩ none 0 0 ⟨rfl, rfl⟩ M.out.goes.rd).mono ?_
  rintro e w6 ⟨b, sl, s6, rfl, r6, g6⟩
  clear cX cx0 cx1 cx2 cx3 cx4 cx5 cx6 cx7 cx8 cx9 cx10 cx11 cx12 cxf0 cxf1 cxf2 cxf3 cxf4 cxf5 cxf6 cxf7 cxf8 cxf9 cxf10 cxf11 cxf12
  replace M := Lib.hid (M.out.call HE.out g6)
  have hX := M.out.loc
  have sz6 : w2.heap.size < w6.heap.size := M.out.lt
  have cx0 := cell_blk (i := 0) hX
  have cx1 := cell_blk (i := 1) hX
  have cx2 := cell_blk (i := 2) hX
  have cx3 := cell_blk (i := 3) hX
  have cx4 := cell_blk (i := 4) hX
  have cx5 := cell_blk (i := 5) hX
  have cx6 := cell_blk (i := 6) hX
  have cx7 := cell_blk (i := 7) hX
  have cx8 := cell_blk (i := 8) hX
  have cx9 := cell_blk (i := 9) hX
  have cx10 := cell_blk (i := 10) hX
  have cx11 := cell_blk (i := 11) hX
  have cx12 := cell_blk (i := 12) hX
  have cxf0 := free_blk (i := 0) hX
  have cxf1 := free_blk (i := 1) hX
  have cxf2 := free_blk (i := 2) hX
  have cxf3 := free_blk (i := 3) hX
  have cxf4 := free_blk (i := 4) hX
  have cxf5 := free_blk (i := 5) hX
  have cxf6 := free_blk (i := 6) hX
  have cxf7 := free_blk (i := 7) hX
  have cxf8 := free_blk (i := 8) hX
  have cxf9 := free_blk (i := 9) hX
  have cxf10 := free_blk (i := 10) hX
  have cxf11 := free_blk (i := 11) hX
  have cxf12 := free_blk (i := 12) hX
  simp at cx0 cx1 cx2 cx3 cx4 cx5 cx6 cx7 cx8 cx9 cx10 cx11 cx12
  have R6 := Lib.hid r6
  clear r6 g6 hX
  replace M := Lib.hid (Mid.as (x' := #[.int .u8 4, .int .u8 0, .int .u8 0, .int .i64 0, .int .u8 0, .int .u8 0, .int .u8 0, .int .u8 0, .slice none 0 0, .bool b, .int .u8 sl.side, .int .u8 sl.zone, .int .u8 sl.kind]) (((((((((((((M.out.set HE.out 0 (.int .u8 4)).set HE.out 1 (.int .u8 0)).set HE.out 2 (.int .u8 0)).set HE.out 3 (.int .i64 0)).set HE.out 4 (.int .u8 0)).set HE.out 5 (.int .u8 0)).set HE.out 6 (.int .u8 0)).set HE.out 7 (.int .u8 0)).set HE.out 8 (.slice none 0 0)).set HE.out 9 (.bool b)).set HE.out 10 (.int .u8 sl.side)).set HE.out 11 (.int .u8 sl.zone)).set HE.out 12 (.int .u8 sl.kind)) (by kernel_rfl))
  go_wp2_with fail
  refine (rtake_any E s6 _ ⟨#[59]⟩ (by rfl) M.out.goes.rd).mono ?_
  rintro e w8 ⟨rfl, s8, r8, g8⟩
  clear cx0 cx1 cx2 cx3 cx4 cx5 cx6 cx7 cx8 cx9 cx10 cx11 cx12 cxf0 cxf1 cxf2 cxf3 cxf4 cxf5 cxf6 cxf7 cxf8 cxf9 cxf10 cxf11 cxf12
  replace M := Lib.hid (M.out.call HE.out g8)
  have hB := M.out.res
  have hX := M.out.loc
  have GG := Lib.hid M.out.goes
  have sz8 : w2.heap.size < w8.heap.size := M.out.lt
  have R8 := Lib.hid r8
  have e0 := cell_blk (i := 0) hB
  have e1 := cell_blk (i := 1) hB
  have e2 := cell_blk (i := 2) hB
  have e3 := cell_blk (i := 3) hB
  have e4 := cell_blk (i := 4) hB
  have e5 := cell_blk (i := 5) hB
  have e6 := cell_blk (i := 6) hB
  have e7 := cell_blk (i := 7) hB
  have e8 := cell_blk (i := 8) hB
  have e9 := cell_blk (i := 9) hB
  have e10 := cell_blk (i := 10) hB
  have e11 := cell_blk (i := 11) hB
  have e12 := cell_blk (i := 12) hB
  have ef0 := free_blk (i := 0) hB
  have ef1 := free_blk (i := 1) hB
  have ef2 := free_blk (i := 2) hB
  have ef3 := free_blk (i := 3) hB
  have ef4 := free_blk (i := 4) hB
  have ef5 := free_blk (i := 5) hB
  have ef6 := free_blk (i := 6) hB
  have ef7 := free_blk (i := 7) hB
  have ef8 := free_blk (i := 8) hB
  have ef9 := free_blk (i := 9) hB
  have ef10 := free_blk (i := 10) hB
  have ef11 := free_blk (i := 11) hB
  have ef12 := free_blk (i := 12) hB
  simp at e0 e1 e2 e3 e4 e5 e6 e7 e8 e9 e10 e11 e12
  have cx0 := cell_blk (i := 0) hX
  have cx1 := cell_blk (i := 1) hX
  have cx2 := cell_blk (i := 2) hX
  have cx3 := cell_blk (i := 3) hX
  have cx4 := cell_blk (i := 4) hX
  have cx5 := cell_blk (i := 5) hX
  have cx6 := cell_blk (i := 6) hX
  have cx7 := cell_blk (i := 7) hX
  have cx8 := cell_blk (i := 8) hX
  have cx9 := cell_blk (i := 9) hX
  have cx10 := cell_blk (i := 10) hX
  have cx11 := cell_blk (i := 11) hX
  have cx12 := cell_blk (i := 12) hX
  have cxf0 := free_blk (i := 0) hX
  have cxf1 := free_blk (i := 1) hX
  have cxf2 := free_blk (i := 2) hX
  have cxf3 := free_blk (i := 3) hX
  have cxf4 := free_blk (i := 4) hX
  have cxf5 := free_blk (i := 5) hX
  have cxf6 := free_blk (i := 6) hX
  have cxf7 := free_blk (i := 7) hX
  have cxf8 := free_blk (i := 8) hX
  have cxf9 := free_blk (i := 9) hX
  have cxf10 := free_blk (i := 10) hX
  have cxf11 := free_blk (i := 11) hX
  have cxf12 := free_blk (i := 12) hX
  simp at cx0 cx1 cx2 cx3 cx4 cx5 cx6 cx7 cx8 cx9 cx10 cx11 cx12
  clear hB hX g8 r8 M
  go_wp2
  refine bodyPost_ret (v := .agg #[.int .u8 4, .int .u8 0, .int .u8 0, .int .i64 0, .int .u8 0, .int .u8 0, .int .u8 0, .int .u8 0, .slice none 0 0, .bool b, .int .u8 sl.side, .int .u8 sl.zone, .int .u8 sl.kind]) (by simp [results, Tryz.results132, go_sem, e0, e1, e2, e3, e4, e5, e6, e7, e8, e9, e10, e11, e12]) rfl ?_
  exact ⟨⟨4, 0, .zero, b, sl⟩, none, 0, 0, s8, rfl, ExAt.at_leaf _ _ _ _ _ _ _, Res.bind R2.out (Res.closed (f := pBody E.ts 4) R6.out R8.out), (by repeat (first | (with_reducible exact GG.out) | (with_reducible refine RGoes.alloc ?_ _) | (with_reducible refine RGoes.drew ?_) | ((with_reducible refine RGoes.store ?_ HE.out ?_ _); rotate_left; focus (first | (simp; done) | (simp; omega) | omega))))⟩
set_option maxHeartbeats 8000000 in
set_option maxRecDepth 100000 in
theorem rstep_5 (E : REnv) (s : RS) (w : World) (hL : oneK E s stepsW = 5) (h : RR w E s) :
    Calls Tryz.prog 132 #[.pointer (some ⟨E.R, 0, none⟩)] w (RStEnds (pStep E.ts) E s w) := by
  have HE := Lib.hid h.both
  have GG := Lib.hid (RGoes.start h)
  have hlt := h.lt
  rw [← step_same]
  clear h
  go_enter Tryz.func132, Tryz.ntmps132
  go_wp2_with fail
  refine (rSteps_any E.R _ (by simp; omega)).mono ?_
  rintro e w1 ⟨v1, rfl, hv1, b1⟩
  have HV := Lib.hid hv1
  obtain ⟨wa, wn, wc, rfl⟩ := hv1.form
  have HB : Hid (w1.heap[w.heap.size]? = some (.cells #[.int .u8 0, .int .u8 0, .int .u8 0, .int .i64 0, .int .u8 0, .int .u8 0, .int .u8 0, .int .u8 0, .slice none 0 0, .bool false, .int .u8 0, .int .u8 0, .int .u8 0] 58 (0, 0))) := by refine (b1.block _ (by simp)).trans ?_; exact heap_alloc_new _ _
  replace GG := Lib.hid (RGoes.below (w := w) (E := E) (s := s) (by repeat (first | (with_reducible exact GG.out) | (with_reducible refine RGoes.alloc ?_ _) | (with_reducible refine RGoes.drew ?_) | ((with_reducible refine RGoes.store ?_ HE.out ?_ _); rotate_left; focus (first | (simp; done) | (simp; omega) | omega)))) b1)
  have sz1 : w.heap.size < w1.heap.size := heap_lt HB.out
  clear b1 hv1
  go_wp2_with fail
  refine (rone_k E s _ _ stepsW wdy_steps HV.out (RGoes.rd (w := w) (by repeat (first | (with_reducible exact GG.out) | (with_reducible refine RGoes.alloc ?_ _) | (with_reducible refine RGoes.drew ?_) | ((with_reducible refine RGoes.store ?_ HE.out ?_ _); rotate_left; focus (first | (simp; done) | (simp; omega) | omega)))))).mono ?_
  rintro e w2 ⟨s2, rfl, r2, l2, g2⟩
  replace HB := Lib.hid (g2.kept.heap (k := w.heap.size) (by omega) HB.out)
  replace GG := Lib.hid (RGoes.trans (w := w) (E := E) (s := s) (by repeat (first | (with_reducible exact GG.out) | (with_reducible refine RGoes.alloc ?_ _) | (with_reducible refine RGoes.drew ?_) | ((with_reducible refine RGoes.store ?_ HE.out ?_ _); rotate_left; focus (first | (simp; done) | (simp; omega) | omega)))) g2)
  have sz2 : w.heap.size < w2.heap.size := heap_lt HB.out
  rw [hL] at r2 ⊢
  have R2 := Lib.hid r2
  clear r2 l2 g2 HV hL
  rw [show ((5 : Nat) : Int) = 5 from rfl]
  have M := Lib.hid (Mid.new GG.out HB.out (#[.int .u8 5, .int .u8 0, .int .u8 0, .int .i64 0, .int .u8 0, .int .u8 0, .int .u8 0, .int .u8 0, .slice none 0 0, .bool false, .int .u8 0, .int .u8 0, .int .u8 0]))
  clear HB GG
  have cX := M.out.loc
  have cx0 := cell_blk (i := 0) cX
  have cx1 := cell_blk (i := 1) cX
  have cx2 := cell_blk (i := 2) cX
  have cx3 := cell_blk (i := 3) cX
  have cx4 := cell_blk (i := 4) cX
  have cx5 := cell_blk (i := 5) cX
  have cx6 := cell_blk (i := 6) cX
  have cx7 := cell_blk (i := 7) cX
  have cx8 := cell_blk (i := 8) cX
  have cx9 := cell_blk (i := 9) cX
  have cx10 := cell_blk (i := 10) cX
  have cx11 := cell_blk (i := 11) cX
  have cx12 := cell_blk (i := 12) cX
  have cxf0 := free_blk (i := 0) cX
  have cxf1 := free_blk (i := 1) cX
  have cxf2 := free_blk (i := 2) cX
  have cxf3 := free_blk (i := 3) cX
  have cxf4 := free_blk (i := 4) cX
  have cxf5 := free_blk (i := 5) cX
  have cxf6 := free_blk (i := 6) cX
  have cxf7 := free_blk (i := 7) cX
  have cxf8 := free_blk (i := 8) cX
  have cxf9 := free_blk (i := 9) cX
  have cxf10 := free_blk (i := 10) cX
  have cxf11 := free_blk (i := 11) cX
  have cxf12 := free_blk (i := 12) cX
  simp at cx0 cx1 cx2 cx3 cx4 cx5 cx6 cx7 cx8 cx9 cx10 cx11 cx12
  go_wp2_with fail
  refine (rmaybe_any E s2 _ ⟨5, 0, .zero, false, .zero⟩ none 0 0 ⟨rfl, rfl⟩ M.out.goes.rd).mono ?_
  rintro e w6 ⟨b, sl, s6, rfl, r6, g6⟩
  clear cX cx0 cx1 cx2 cx3 cx4 cx5 cx6 cx7 cx8 cx9 cx10 cx11 cx12 cxf0 cxf1 cxf2 cxf3 cxf4 cxf5 cxf6 cxf7 cxf8 cxf9 cxf10 cxf11 cxf12
  replace M := Lib.hid (M.out.call HE.out g6)
  have hX := M.out.loc
  have sz6 : w2.heap.size < w6.heap.size := M.out.lt
  have cx0 := cell_blk (i := 0) hX
  have cx1 := cell_blk (i := 1) hX
  have cx2 := cell_blk (i := 2) hX
  have cx3 := cell_blk (i := 3) hX
  have cx4 := cell_blk (i := 4) hX
  have cx5 := cell_blk (i := 5) hX
  have cx6 := cell_blk (i := 6) hX
  have cx7 := cell_blk (i := 7) hX
  have cx8 := cell_blk (i := 8) hX
  have cx9 := cell_blk (i := 9) hX
  have cx10 := cell_blk (i := 10) hX
  have cx11 := cell_blk (i := 11) hX
  have cx12 := cell_blk (i := 12) hX
  have cxf0 := free_blk (i := 0) hX
  have cxf1 := free_blk (i := 1) hX
  have cxf2 := free_blk (i := 2) hX
  have cxf3 := free_blk (i := 3) hX
  have cxf4 := free_blk (i := 4) hX
  have cxf5 := free_blk (i := 5) hX
  have cxf6 := free_blk (i := 6) hX
  have cxf7 := free_blk (i := 7) hX
  have cxf8 := free_blk (i := 8) hX
  have cxf9 := free_blk (i := 9) hX
  have cxf10 := free_blk (i := 10) hX
  have cxf11 := free_blk (i := 11) hX
  have cxf12 := free_blk (i := 12) hX
  simp at cx0 cx1 cx2 cx3 cx4 cx5 cx6 cx7 cx8 cx9 cx10 cx11 cx12
  have R6 := Lib.hid r6
  clear r6 g6 hX
  replace M := Lib.hid (Mid.as (x' := #[.int .u8 5, .int .u8 0, .int .u8 0, .int .i64 0, .int .u8 0, .int .u8 0, .int .u8 0, .int .u8 0, .slice none 0 0, .bool b, .int .u8 sl.side, .int .u8 sl.zone, .int .u8 sl.kind]) (((((((((((((M.out.set HE.out 0 (.int .u8 5)).set HE.out 1 (.int .u8 0)).set HE.out 2 (.int .u8 0)).set HE.out 3 (.int .i64 0)).set HE.out 4 (.int .u8 0)).set HE.out 5 (.int .u8 0)).set HE.out 6 (.int .u8 0)).set HE.out 7 (.int .u8 0)).set HE.out 8 (.slice none 0 0)).set HE.out 9 (.bool b)).set HE.out 10 (.int .u8 sl.side)).set HE.out 11 (.int .u8 sl.zone)).set HE.out 12 (.int .u8 sl.kind)) (by kernel_rfl))
  go_wp2_with fail
  refine (rtake_any E s6 _ ⟨#[59]⟩ (by rfl) M.out.goes.rd).mono ?_
  rintro e w8 ⟨rfl, s8, r8, g8⟩
  clear cx0 cx1 cx2 cx3 cx4 cx5 cx6 cx7 cx8 cx9 cx10 cx11 cx12 cxf0 cxf1 cxf2 cxf3 cxf4 cxf5 cxf6 cxf7 cxf8 cxf9 cxf10 cxf11 cxf12
  replace M := Lib.hid (M.out.call HE.out g8)
  have hB := M.out.res
  have hX := M.out.loc
  have GG := Lib.hid M.out.goes
  have sz8 : w2.heap.size < w8.heap.size := M.out.lt
  have R8 := Lib.hid r8
  have e0 := cell_blk (i := 0) hB
  have e1 := cell_blk (i := 1) hB
  have e2 := cell_blk (i := 2) hB
  have e3 := cell_blk (i := 3) hB
  have e4 := cell_blk (i := 4) hB
  have e5 := cell_blk (i := 5) hB
  have e6 := cell_blk (i := 6) hB
  have e7 := cell_blk (i := 7) hB
  have e8 := cell_blk (i := 8) hB
  have e9 := cell_blk (i := 9) hB
  have e10 := cell_blk (i := 10) hB
  have e11 := cell_blk (i := 11) hB
  have e12 := cell_blk (i := 12) hB
  have ef0 := free_blk (i := 0) hB
  have ef1 := free_blk (i := 1) hB
  have ef2 := free_blk (i := 2) hB
  have ef3 := free_blk (i := 3) hB
  have ef4 := free_blk (i := 4) hB
  have ef5 := free_blk (i := 5) hB
  have ef6 := free_blk (i := 6) hB
  have ef7 := free_blk (i := 7) hB
  have ef8 := free_blk (i := 8) hB
  have ef9 := free_blk (i := 9) hB
  have ef10 := free_blk (i := 10) hB
  have ef11 := free_blk (i := 11) hB
  have ef12 := free_blk (i := 12) hB
  simp at e0 e1 e2 e3 e4 e5 e6 e7 e8 e9 e10 e11 e12
  have cx0 := cell_blk (i := 0) hX
  have cx1 := cell_blk (i := 1) hX
  have cx2 := cell_blk (i := 2) hX
  have cx3 := cell_blk (i := 3) hX
  have cx4 := cell_blk (i := 4) hX
  have cx5 := cell_blk (i := 5) hX
  have cx6 := cell_blk (i := 6) hX
  have cx7 := cell_blk (i := 7) hX
  have cx8 := cell_blk (i := 8) hX
  have cx9 := cell_blk (i := 9) hX
  have cx10 := cell_blk (i := 10) hX
  have cx11 := cell_blk (i := 11) hX
  have cx12 := cell_blk (i := 12) hX
  have cxf0 := free_blk (i := 0) hX
  have cxf1 := free_blk (i := 1) hX
  have cxf2 := free_blk (i := 2) hX
  have cxf3 := free_blk (i := 3) hX
  have cxf4 := free_blk (i := 4) hX
  have cxf5 := free_blk (i := 5) hX
  have cxf6 := free_blk (i := 6) hX
  have cxf7 := free_blk (i := 7) hX
  have cxf8 := free_blk (i := 8) hX
  have cxf9 := free_blk (i := 9) hX
  have cxf10 := free_blk (i := 10) hX
  have cxf11 := free_blk (i := 11) hX
  have cxf12 := free_blk (i := 12) hX
  simp at cx0 cx1 cx2 cx3 cx4 cx5 cx6 cx7 cx8 cx9 cx10 cx11 cx12
  clear hB hX g8 r8 M
  go_wp2
  refine bodyPost_ret (v := .agg #[.int .u8 5, .int .u8 0, .int .u8 0, .int .i64 0, .int .u8 0, .int .u8 0, .int .u8 0, .int .u8 0, .slice none 0 0, .bool b, .int .u8 sl.side, .int .u8 sl.zone, .int .u8 sl.kind]) (by simp [results, Tryz.results132, go_sem, e0, e1, e2, e3, e4, e5, e6, e7, e8, e9, e10, e11, e12]) rfl ?_
  exact ⟨⟨5, 0, .zero, b, sl⟩, none, 0, 0, s8, rfl, ExAt.at_leaf _ _ _ _ _ _ _, Res.bind R2.out (Res.closed (f := pBody E.ts 5) R6.out R8.out), (by repeat (first | (with_reducible exact GG.out) | (with_reducible refine RGoes.alloc ?_ _) | (with_reducible refine RGoes.drew ?_) | ((with_reducible refine RGoes.store ?_ HE.out ?_ _); rotate_left; focus (first | (simp; done) | (simp; omega) | omega))))⟩
set_option maxHeartbeats 8000000 in
set_option maxRecDepth 100000 in
theorem rstep_6 (E : REnv) (s : RS) (w : World) (hL : oneK E s stepsW = 6) (h : RR w E s) :
    Calls Tryz.prog 132 #[.pointer (some ⟨E.R, 0, none⟩)] w (RStEnds (pStep E.ts) E s w) := by
  have HE := Lib.hid h.both
  have GG := Lib.hid (RGoes.start h)
  have hlt := h.lt
  rw [← step_same]
  clear h
  go_enter Tryz.func132, Tryz.ntmps132
  go_wp2_with fail
  refine (rSteps_any E.R _ (by simp; omega)).mono ?_
  rintro e w1 ⟨v1, rfl, hv1, b1⟩
  have HV := Lib.hid hv1
  obtain ⟨wa, wn, wc, rfl⟩ := hv1.form
  have HB : Hid (w1.heap[w.heap.size]? = some (.cells #[.int .u8 0, .int .u8 0, .int .u8 0, .int .i64 0, .int .u8 0, .int .u8 0, .int .u8 0, .int .u8 0, .slice none 0 0, .bool false, .int .u8 0, .int .u8 0, .int .u8 0] 58 (0, 0))) := by refine (b1.block _ (by simp)).trans ?_; exact heap_alloc_new _ _
  replace GG := Lib.hid (RGoes.below (w := w) (E := E) (s := s) (by repeat (first | (with_reducible exact GG.out) | (with_reducible refine RGoes.alloc ?_ _) | (with_reducible refine RGoes.drew ?_) | ((with_reducible refine RGoes.store ?_ HE.out ?_ _); rotate_left; focus (first | (simp; done) | (simp; omega) | omega)))) b1)
  have sz1 : w.heap.size < w1.heap.size := heap_lt HB.out
  clear b1 hv1
  go_wp2_with fail
  refine (rone_k E s _ _ stepsW wdy_steps HV.out (RGoes.rd (w := w) (by repeat (first | (with_reducible exact GG.out) | (with_reducible refine RGoes.alloc ?_ _) | (with_reducible refine RGoes.drew ?_) | ((with_reducible refine RGoes.store ?_ HE.out ?_ _); rotate_left; focus (first | (simp; done) | (simp; omega) | omega)))))).mono ?_
  rintro e w2 ⟨s2, rfl, r2, l2, g2⟩
  replace HB := Lib.hid (g2.kept.heap (k := w.heap.size) (by omega) HB.out)
  replace GG := Lib.hid (RGoes.trans (w := w) (E := E) (s := s) (by repeat (first | (with_reducible exact GG.out) | (with_reducible refine RGoes.alloc ?_ _) | (with_reducible refine RGoes.drew ?_) | ((with_reducible refine RGoes.store ?_ HE.out ?_ _); rotate_left; focus (first | (simp; done) | (simp; omega) | omega)))) g2)
  have sz2 : w.heap.size < w2.heap.size := heap_lt HB.out
  rw [hL] at r2 ⊢
  have R2 := Lib.hid r2
  clear r2 l2 g2 HV hL
  rw [show ((6 : Nat) : Int) = 6 from rfl]
  have M := Lib.hid (Mid.new GG.out HB.out (#[.int .u8 6, .int .u8 0, .int .u8 0, .int .i64 0, .int .u8 0, .int .u8 0, .int .u8 0, .int .u8 0, .slice none 0 0, .bool false, .int .u8 0, .int .u8 0, .int .u8 0]))
  clear HB GG
  have cX := M.out.loc
  have cx0 := cell_blk (i := 0) cX
  have cx1 := cell_blk (i := 1) cX
  have cx2 := cell_blk (i := 2) cX
  have cx3 := cell_blk (i := 3) cX
  have cx4 := cell_blk (i := 4) cX
  have cx5 := cell_blk (i := 5) cX
  have cx6 := cell_blk (i := 6) cX
  have cx7 := cell_blk (i := 7) cX
  have cx8 := cell_blk (i := 8) cX
  have cx9 := cell_blk (i := 9) cX
  have cx10 := cell_blk (i := 10) cX
  have cx11 := cell_blk (i := 11) cX
  have cx12 := cell_blk (i := 12) cX
  have cxf0 := free_blk (i := 0) cX
  have cxf1 := free_blk (i := 1) cX
  have cxf2 := free_blk (i := 2) cX
  have cxf3 := free_blk (i := 3) cX
  have cxf4 := free_blk (i := 4) cX
  have cxf5 := free_blk (i := 5) cX
  have cxf6 := free_blk (i := 6) cX
  have cxf7 := free_blk (i := 7) cX
  have cxf8 := free_blk (i := 8) cX
  have cxf9 := free_blk (i := 9) cX
  have cxf10 := free_blk (i := 10) cX
  have cxf11 := free_blk (i := 11) cX
  have cxf12 := free_blk (i := 12) cX
  simp at cx0 cx1 cx2 cx3 cx4 cx5 cx6 cx7 cx8 cx9 cx10 cx11 cx12
  go_wp2_with fail
  refine (rmaybe_any E s2 _ ⟨6, 0, .zero, false, .zero⟩ none 0 0 ⟨rfl, rfl⟩ M.out.goes.rd).mono ?_
  rintro e w6 ⟨b, sl, s6, rfl, r6, g6⟩
  clear cX cx0 cx1 cx2 cx3 cx4 cx5 cx6 cx7 cx8 cx9 cx10 cx11 cx12 cxf0 cxf1 cxf2 cxf3 cxf4 cxf5 cxf6 cxf7 cxf8 cxf9 cxf10 cxf11 cxf12
  replace M := Lib.hid (M.out.call HE.out g6)
  have hX := M.out.loc
  have sz6 : w2.heap.size < w6.heap.size := M.out.lt
  have cx0 := cell_blk (i := 0) hX
  have cx1 := cell_blk (i := 1) hX
  have cx2 := cell_blk (i := 2) hX
  have cx3 := cell_blk (i := 3) hX
  have cx4 := cell_blk (i := 4) hX
  have cx5 := cell_blk (i := 5) hX
  have cx6 := cell_blk (i := 6) hX
  have cx7 := cell_blk (i := 7) hX
  have cx8 := cell_blk (i := 8) hX
  have cx9 := cell_blk (i := 9) hX
  have cx10 := cell_blk (i := 10) hX
  have cx11 := cell_blk (i := 11) hX
  have cx12 := cell_blk (i := 12) hX
  have cxf0 := free_blk (i := 0) hX
  have cxf1 := free_blk (i := 1) hX
  have cxf2 := free_blk (i := 2) hX
  have cxf3 := free_blk (i := 3) hX
  have cxf4 := free_blk (i := 4) hX
  have cxf5 := free_blk (i := 5) hX
  have cxf6 := free_blk (i := 6) hX
  have cxf7 := free_blk (i := 7) hX
  have cxf8 := free_blk (i := 8) hX
  have cxf9 := free_blk (i := 9) hX
  have cxf10 := free_blk (i := 10) hX
  have cxf11 := free_blk (i := 11) hX
  have cxf12 := free_blk (i := 12) hX
  simp at cx0 cx1 cx2 cx3 cx4 cx5 cx6 cx7 cx8 cx9 cx10 cx11 cx12
  have R6 := Lib.hid r6
  clear r6 g6 hX
  replace M := Lib.hid (Mid.as (x' := #[.int .u8 6, .int .u8 0, .int .u8 0, .int .i64 0, .int .u8 0, .int .u8 0, .int .u8 0, .int .u8 0, .slice none 0 0, .bool b, .int .u8 sl.side, .int .u8 sl.zone, .int .u8 sl.kind]) (((((((((((((M.out.set HE.out 0 (.int .u8 6)).set HE.out 1 (.int .u8 0)).set HE.out 2 (.int .u8 0)).set HE.out 3 (.int .i64 0)).set HE.out 4 (.int .u8 0)).set HE.out 5 (.int .u8 0)).set HE.out 6 (.int .u8 0)).set HE.out 7 (.int .u8 0)).set HE.out 8 (.slice none 0 0)).set HE.out 9 (.bool b)).set HE.out 10 (.int .u8 sl.side)).set HE.out 11 (.int .u8 sl.zone)).set HE.out 12 (.int .u8 sl.kind)) (by kernel_rfl))
  go_wp2_with fail
  refine (rtake_any E s6 _ ⟨#[59]⟩ (by rfl) M.out.goes.rd).mono ?_
  rintro e w8 ⟨rfl, s8, r8, g8⟩
  clear cx0 cx1 cx2 cx3 cx4 cx5 cx6 cx7 cx8 cx9 cx10 cx11 cx12 cxf0 cxf1 cxf2 cxf3 cxf4 cxf5 cxf6 cxf7 cxf8 cxf9 cxf10 cxf11 cxf12
  replace M := Lib.hid (M.out.call HE.out g8)
  have hB := M.out.res
  have hX := M.out.loc
  have GG := Lib.hid M.out.goes
  have sz8 : w2.heap.size < w8.heap.size := M.out.lt
  have R8 := Lib.hid r8
  have e0 := cell_blk (i := 0) hB
  have e1 := cell_blk (i := 1) hB
  have e2 := cell_blk (i := 2) hB
  have e3 := cell_blk (i := 3) hB
  have e4 := cell_blk (i := 4) hB
  have e5 := cell_blk (i := 5) hB
  have e6 := cell_blk (i := 6) hB
  have e7 := cell_blk (i := 7) hB
  have e8 := cell_blk (i := 8) hB
  have e9 := cell_blk (i := 9) hB
  have e10 := cell_blk (i := 10) hB
  have e11 := cell_blk (i := 11) hB
  have e12 := cell_blk (i := 12) hB
  have ef0 := free_blk (i := 0) hB
  have ef1 := free_blk (i := 1) hB
  have ef2 := free_blk (i := 2) hB
  have ef3 := free_blk (i := 3) hB
  have ef4 := free_blk (i := 4) hB
  have ef5 := free_blk (i := 5) hB
  have ef6 := free_blk (i := 6) hB
  have ef7 := free_blk (i := 7) hB
  have ef8 := free_blk (i := 8) hB
  have ef9 := free_blk (i := 9) hB
  have ef10 := free_blk (i := 10) hB
  have ef11 := free_blk (i := 11) hB
  have ef12 := free_blk (i := 12) hB
  simp at e0 e1 e2 e3 e4 e5 e6 e7 e8 e9 e10 e11 e12
  have cx0 := cell_blk (i := 0) hX
  have cx1 := cell_blk (i := 1) hX
  have cx2 := cell_blk (i := 2) hX
  have cx3 := cell_blk (i := 3) hX
  have cx4 := cell_blk (i := 4) hX
  have cx5 := cell_blk (i := 5) hX
  have cx6 := cell_blk (i := 6) hX
  have cx7 := cell_blk (i := 7) hX
  have cx8 := cell_blk (i := 8) hX
  have cx9 := cell_blk (i := 9) hX
  have cx10 := cell_blk (i := 10) hX
  have cx11 := cell_blk (i := 11) hX
  have cx12 := cell_blk (i := 12) hX
  have cxf0 := free_blk (i := 0) hX
  have cxf1 := free_blk (i := 1) hX
  have cxf2 := free_blk (i := 2) hX
  have cxf3 := free_blk (i := 3) hX
  have cxf4 := free_blk (i := 4) hX
  have cxf5 := free_blk (i := 5) hX
  have cxf6 := free_blk (i := 6) hX
  have cxf7 := free_blk (i := 7) hX
  have cxf8 := free_blk (i := 8) hX
  have cxf9 := free_blk (i := 9) hX
  have cxf10 := free_blk (i := 10) hX
  have cxf11 := free_blk (i := 11) hX
  have cxf12 := free_blk (i := 12) hX
  simp at cx0 cx1 cx2 cx3 cx4 cx5 cx6 cx7 cx8 cx9 cx10 cx11 cx12
  clear hB hX g8 r8 M
  go_wp2
  refine bodyPost_ret (v := .agg #[.int .u8 6, .int .u8 0, .int .u8 0, .int .i64 0, .int .u8 0, .int .u8 0, .int .u8 0, .int .u8 0, .slice none 0 0, .bool b, .int .u8 sl.side, .int .u8 sl.zone, .int .u8 sl.kind]) (by simp [results, Tryz.results132, go_sem, e0, e1, e2, e3, e4, e5, e6, e7, e8, e9, e10, e11, e12]) rfl ?_
  exact ⟨⟨6, 0, .zero, b, sl⟩, none, 0, 0, s8, rfl, ExAt.at_leaf _ _ _ _ _ _ _, Res.bind R2.out (Res.closed (f := pBody E.ts 6) R6.out R8.out), (by repeat (first | (with_reducible exact GG.out) | (with_reducible refine RGoes.alloc ?_ _) | (with_reducible refine RGoes.drew ?_) | ((with_reducible refine RGoes.store ?_ HE.out ?_ _); rotate_left; focus (first | (simp; done) | (simp; omega) | omega))))⟩
set_option maxHeartbeats 8000000 in
set_option maxRecDepth 100000 in
theorem rstep_8 (E : REnv) (s : RS) (w : World) (hL : oneK E s stepsW = 8) (h : RR w E s) :
    Calls Tryz.prog 132 #[.pointer (some ⟨E.R, 0, none⟩)] w (RStEnds (pStep E.ts) E s w) := by
  have HE := Lib.hid h.both
  have GG := Lib.hid (RGoes.start h)
  have hlt := h.lt
  rw [← step_same]
  clear h
  go_enter Tryz.func132, Tryz.ntmps132
  go_wp2_with fail
  refine (rSteps_any E.R _ (by simp; omega)).mono ?_
  rintro e w1 ⟨v1, rfl, hv1, b1⟩
  have HV := Lib.hid hv1
  obtain ⟨wa, wn, wc, rfl⟩ := hv1.form
  have HB : Hid (w1.heap[w.heap.size]? = some (.cells #[.int .u8 0, .int .u8 0, .int .u8 0, .int .i64 0, .int .u8 0, .int .u8 0, .int .u8 0, .int .u8 0, .slice none 0 0, .bool false, .int .u8 0, .int .u8 0, .int .u8 0] 58 (0, 0))) := by refine (b1.block _ (by simp)).trans ?_; exact heap_alloc_new _ _
  replace GG := Lib.hid (RGoes.below (w := w) (E := E) (s := s) (by repeat (first | (with_reducible exact GG.out) | (with_reducible refine RGoes.alloc ?_ _) | (with_reducible refine RGoes.drew ?_) | ((with_reducible refine RGoes.store ?_ HE.out ?_ _); rotate_left; focus (first | (simp; done) | (simp; omega) | omega)))) b1)
  have sz1 : w.heap.size < w1.heap.size := heap_lt HB.out
  clear b1 hv1
  go_wp2_with fail
  refine (rone_k E s _ _ stepsW wdy_steps HV.out (RGoes.rd (w := w) (by repeat (first | (with_reducible exact GG.out) | (with_reducible refine RGoes.alloc ?_ _) | (with_reducible refine RGoes.drew ?_) | ((with_reducible refine RGoes.store ?_ HE.out ?_ _); rotate_left; focus (first | (simp; done) | (simp; omega) | omega)))))).mono ?_
  rintro e w2 ⟨s2, rfl, r2, l2, g2⟩
  replace HB := Lib.hid (g2.kept.heap (k := w.heap.size) (by omega) HB.out)
  replace GG := Lib.hid (RGoes.trans (w := w) (E := E) (s := s) (by repeat (first | (with_reducible exact GG.out) | (with_reducible refine RGoes.alloc ?_ _) | (with_reducible refine RGoes.drew ?_) | ((with_reducible refine RGoes.store ?_ HE.out ?_ _); rotate_left; focus (first | (simp; done) | (simp; omega) | omega)))) g2)
  have sz2 : w.heap.size < w2.heap.size := heap_lt HB.out
  rw [hL] at r2 ⊢
  have R2 := Lib.hid r2
  clear r2 l2 g2 HV hL
  rw [show ((8 : Nat) : Int) = 8 from rfl]
  have M := Lib.hid (Mid.new GG.out HB.out (#[.int .u8 8, .int .u8 0, .int .u8 0, .int .i64 0, .int .u8 0, .int .u8 0, .int .u8 0, .int .u8 0, .slice none 0 0, .bool false, .int .u8 0, .int .u8 0, .int .u8 0]))
  clear HB GG
  have cX := M.out.loc
  have cx0 := cell_blk (i := 0) cX
  have cx1 := cell_blk (i := 1) cX
  have cx2 := cell_blk (i := 2) cX
  have cx3 := cell_blk (i := 3) cX
  have cx4 := cell_blk (i := 4) cX
  have cx5 := cell_blk (i := 5) cX
  have cx6 := cell_blk (i := 6) cX
  have cx7 := cell_blk (i := 7) cX
  have cx8 := cell_blk (i := 8) cX
  have cx9 := cell_blk (i := 9) cX
  have cx10 := cell_blk (i := 10) cX
  have cx11 := cell_blk (i := 11) cX
  have cx12 := cell_blk (i := 12) cX
  have cxf0 := free_blk (i := 0) cX
  have cxf1 := free_blk (i := 1) cX
  have cxf2 := free_blk (i := 2) cX
  have cxf3 := free_blk (i := 3) cX
  have cxf4 := free_blk (i := 4) cX
  have cxf5 := free_blk (i := 5) cX
  have cxf6 := free_blk (i := 6) cX
  have cxf7 := free_blk (i := 7) cX
  have cxf8 := free_blk (i := 8) cX
  have cxf9 := free_blk (i := 9) cX
  have cxf10 := free_blk (i := 10) cX
  have cxf11 := free_blk (i := 11) cX
  have cxf12 := free_blk (i := 12) cX
  simp at cx0 cx1 cx2 cx3 cx4 cx5 cx6 cx7 cx8 cx9 cx10 cx11 cx12
  go_wp2_with fail
  refine (rmaybe_any E s2 _ ⟨8, 0, .zero, false, .zero⟩ none 0 0 ⟨rfl, rfl⟩ M.out.goes.rd).mono ?_
  rintro e w6 ⟨b, sl, s6, rfl, r6, g6⟩
  clear cX cx0 cx1 cx2 cx3 cx4 cx5 cx6 cx7 cx8 cx9 cx10 cx11 cx12 cxf0 cxf1 cxf2 cxf3 cxf4 cxf5 cxf6 cxf7 cxf8 cxf9 cxf10 cxf11 cxf12
  replace M := Lib.hid (M.out.call HE.out g6)
  have hX := M.out.loc
  have sz6 : w2.heap.size < w6.heap.size := M.out.lt
  have cx0 := cell_blk (i := 0) hX
  have cx1 := cell_blk (i := 1) hX
  have cx2 := cell_blk (i := 2) hX
  have cx3 := cell_blk (i := 3) hX
  have cx4 := cell_blk (i := 4) hX
  have cx5 := cell_blk (i := 5) hX
  have cx6 := cell_blk (i := 6) hX
  have cx7 := cell_blk (i := 7) hX
  have cx8 := cell_blk (i := 8) hX
  have cx9 := cell_blk (i := 9) hX
  have cx10 := cell_blk (i := 10) hX
  have cx11 := cell_blk (i := 11) hX
  have cx12 := cell_blk (i := 12) hX
  have cxf0 := free_blk (i := 0) hX
  have cxf1 := free_blk (i := 1) hX
  have cxf2 := free_blk (i := 2) hX
  have cxf3 := free_blk (i := 3) hX
  have cxf4 := free_blk (i := 4) hX
  have cxf5 := free_blk (i := 5) hX
  have cxf6 := free_blk (i := 6) hX
  have cxf7 := free_blk (i := 7) hX
  have cxf8 := free_blk (i := 8) hX
  have cxf9 := free_blk (i := 9) hX
  have cxf10 := free_blk (i := 10) hX
  have cxf11 := free_blk (i := 11) hX
  have cxf12 := free_blk (i := 12) hX
  simp at cx0 cx1 cx2 cx3 cx4 cx5 cx6 cx7 cx8 cx9 cx10 cx11 cx12
  have R6 := Lib.hid r6
  clear r6 g6 hX
  replace M := Lib.hid (Mid.as (x' := #[.int .u8 8, .int .u8 0, .int .u8 0, .int .i64 0, .int .u8 0, .int .u8 0, .int .u8 0, .int .u8 0, .slice none 0 0, .bool b, .int .u8 sl.side, .int .u8 sl.zone, .int .u8 sl.kind]) (((((((((((((M.out.set HE.out 0 (.int .u8 8)).set HE.out 1 (.int .u8 0)).set HE.out 2 (.int .u8 0)).set HE.out 3 (.int .i64 0)).set HE.out 4 (.int .u8 0)).set HE.out 5 (.int .u8 0)).set HE.out 6 (.int .u8 0)).set HE.out 7 (.int .u8 0)).set HE.out 8 (.slice none 0 0)).set HE.out 9 (.bool b)).set HE.out 10 (.int .u8 sl.side)).set HE.out 11 (.int .u8 sl.zone)).set HE.out 12 (.int .u8 sl.kind)) (by kernel_rfl))
  go_wp2_with fail
  refine (rtake_any E s6 _ ⟨#[59]⟩ (by rfl) M.out.goes.rd).mono ?_
  rintro e w8 ⟨rfl, s8, r8, g8⟩
  clear cx0 cx1 cx2 cx3 cx4 cx5 cx6 cx7 cx8 cx9 cx10 cx11 cx12 cxf0 cxf1 cxf2 cxf3 cxf4 cxf5 cxf6 cxf7 cxf8 cxf9 cxf10 cxf11 cxf12
  replace M := Lib.hid (M.out.call HE.out g8)
  have hB := M.out.res
  have hX := M.out.loc
  have GG := Lib.hid M.out.goes
  have sz8 : w2.heap.size < w8.heap.size := M.out.lt
  have R8 := Lib.hid r8
  have e0 := cell_blk (i := 0) hB
  have e1 := cell_blk (i := 1) hB
  have e2 := cell_blk (i := 2) hB
  have e3 := cell_blk (i := 3) hB
  have e4 := cell_blk (i := 4) hB
  have e5 := cell_blk (i := 5) hB
  have e6 := cell_blk (i := 6) hB
  have e7 := cell_blk (i := 7) hB
  have e8 := cell_blk (i := 8) hB
  have e9 := cell_blk (i := 9) hB
  have e10 := cell_blk (i := 10) hB
  have e11 := cell_blk (i := 11) hB
  have e12 := cell_blk (i := 12) hB
  have ef0 := free_blk (i := 0) hB
  have ef1 := free_blk (i := 1) hB
  have ef2 := free_blk (i := 2) hB
  have ef3 := free_blk (i := 3) hB
  have ef4 := free_blk (i := 4) hB
  have ef5 := free_blk (i := 5) hB
  have ef6 := free_blk (i := 6) hB
  have ef7 := free_blk (i := 7) hB
  have ef8 := free_blk (i := 8) hB
  have ef9 := free_blk (i := 9) hB
  have ef10 := free_blk (i := 10) hB
  have ef11 := free_blk (i := 11) hB
  have ef12 := free_blk (i := 12) hB
  simp at e0 e1 e2 e3 e4 e5 e6 e7 e8 e9 e10 e11 e12
  have cx0 := cell_blk (i := 0) hX
  have cx1 := cell_blk (i := 1) hX
  have cx2 := cell_blk (i := 2) hX
  have cx3 := cell_blk (i := 3) hX
  have cx4 := cell_blk (i := 4) hX
  have cx5 := cell_blk (i := 5) hX
  have cx6 := cell_blk (i := 6) hX
  have cx7 := cell_blk (i := 7) hX
  have cx8 := cell_blk (i := 8) hX
  have cx9 := cell_blk (i := 9) hX
  have cx10 := cell_blk (i := 10) hX
  have cx11 := cell_blk (i := 11) hX
  have cx12 := cell_blk (i := 12) hX
  have cxf0 := free_blk (i := 0) hX
  have cxf1 := free_blk (i := 1) hX
  have cxf2 := free_blk (i := 2) hX
  have cxf3 := free_blk (i := 3) hX
  have cxf4 := free_blk (i := 4) hX
  have cxf5 := free_blk (i := 5) hX
  have cxf6 := free_blk (i := 6) hX
  have cxf7 := free_blk (i := 7) hX
  have cxf8 := free_blk (i := 8) hX
  have cxf9 := free_blk (i := 9) hX
  have cxf10 := free_blk (i := 10) hX
  have cxf11 := free_blk (i := 11) hX
  have cxf12 := free_blk (i := 12) hX
  simp at cx0 cx1 cx2 cx3 cx4 cx5 cx6 cx7 cx8 cx9 cx10 cx11 cx12
  clear hB hX g8 r8 M
  go_wp2
  refine bodyPost_ret (v := .agg #[.int .u8 8, .int .u8 0, .int .u8 0, .int .i64 0, .int .u8 0, .int .u8 0, .int .u8 0, .int .u8 0, .slice none 0 0, .bool b, .int .u8 sl.side, .int .u8 sl.zone, .int .u8 sl.kind]) (by simp [results, Tryz.results132, go_sem, e0, e1, e2, e3, e4, e5, e6, e7, e8, e9, e10, e11, e12]) rfl ?_
  exact ⟨⟨8, 0, .zero, b, sl⟩, none, 0, 0, s8, rfl, ExAt.at_leaf _ _ _ _ _ _ _, Res.bind R2.out (Res.closed (f := pBody E.ts 8) R6.out R8.out), (by repeat (first | (with_reducible exact GG.out) | (with_reducible refine RGoes.alloc ?_ _) | (with_reducible refine RGoes.drew ?_) | ((with_reducible refine RGoes.store ?_ HE.out ?_ _); rotate_left; focus (first | (simp; done) | (simp; omega) | omega))))⟩
set_option maxHeartbeats 8000000 in
set_option maxRecDepth 100000 in
theorem rstep_10 (E : REnv) (s : RS) (w : World) (hL : oneK E s stepsW = 10) (h : RR w E s) :
    Calls Tryz.prog 132 #[.pointer (some ⟨E.R, 0, none⟩)] w (RStEnds (pStep E.ts) E s w) := by
  have HE := Lib.hid h.both
  have GG := Lib.hid (RGoes.start h)
  have hlt := h.lt
  rw [← step_same]
  clear h
  go_enter Tryz.func132, Tryz.ntmps132
  go_wp2_with fail
  refine (rSteps_any E.R _ (by simp; omega)).mono ?_
  rintro e w1 ⟨v1, rfl, hv1, b1⟩
  have HV := Lib.hid hv1
  obtain ⟨wa, wn, wc, rfl⟩ := hv1.form
  have HB : Hid (w1.heap[w.heap.size]? = some (.cells #[.int .u8 0, .int .u8 0, .int .u8 0, .int .i64 0, .int .u8 0, .int .u8 0, .int .u8 0, .int .u8 0, .slice none 0 0, .bool false, .int .u8 0, .int .u8 0, .int .u8 0] 58 (0, 0))) := by refine (b1.block _ (by simp)).trans ?_; exact heap_alloc_new _ _
  replace GG := Lib.hid (RGoes.below (w := w) (E := E) (s := s) (by repeat (first | (with_reducible exact GG.out) | (with_reducible refine RGoes.alloc ?_ _) | (with_reducible refine RGoes.drew ?_) | ((with_reducible refine RGoes.store ?_ HE.out ?_ _); rotate_left; focus (first | (simp; done) | (simp; omega) | omega)))) b1)
  have sz1 : w.heap.size < w1.heap.size := heap_lt HB.out
  clear b1 hv1
  go_wp2_with fail
  refine (rone_k E s _ _ stepsW wdy_steps HV.out (RGoes.rd (w := w) (by repeat (first | (with_reducible exact GG.out) | (with_reducible refine RGoes.alloc ?_ _) | (with_reducible refine RGoes.drew ?_) | ((with_reducible refine RGoes.store ?_ HE.out ?_ _); rotate_left; focus (first | (simp; done) | (simp; omega) | omega)))))).mono ?_
  rintro e w2 ⟨s2, rfl, r2, l2, g2⟩
  replace HB := Lib.hid (g2.kept.heap (k := w.heap.size) (by omega) HB.out)
  replace GG := Lib.hid (RGoes.trans (w := w) (E := E) (s := s) (by repeat (first | (with_reducible exact GG.out) | (with_reducible refine RGoes.alloc ?_ _) | (with_reducible refine RGoes.drew ?_) | ((with_reducible refine RGoes.store ?_ HE.out ?_ _); rotate_left; focus (first | (simp; done) | (simp; omega) | omega)))) g2)
  have sz2 : w.heap.size < w2.heap.size := heap_lt HB.out
  rw [hL] at r2 ⊢
  have R2 := Lib.hid r2
  clear r2 l2 g2 HV hL
  rw [show ((10 : Nat) : Int) = 10 from rfl]
  have M := Lib.hid (Mid.new GG.out HB.out (#[.int .u8 10, .int .u8 0, .int .u8 0, .int .i64 0, .int .u8 0, .int .u8 0, .int .u8 0, .int .u8 0, .slice none 0 0, .bool false, .int .u8 0, .int .u8 0, .int .u8 0]))
  clear HB GG
  go_wp2_with fail
  refine (rtake_any E s2 _ ⟨#[59]⟩ (by rfl) M.out.goes.rd).mono ?_
  rintro e w8 ⟨rfl, s8, r8, g8⟩
  replace M := Lib.hid (M.out.call HE.out g8)
  have hB := M.out.res
  have hX := M.out.loc
  have GG := Lib.hid M.out.goes
  have sz8 : w2.heap.size < w8.heap.size := M.out.lt
  have R8 := Lib.hid r8
  have e0 := cell_blk (i := 0) hB
  have e1 := cell_blk (i := 1) hB
  have e2 := cell_blk (i := 2) hB
  have e3 := cell_blk (i := 3) hB
  have e4 := cell_blk (i := 4) hB
  have e5 := cell_blk (i := 5) hB
  have e6 := cell_blk (i := 6) hB
  have e7 := cell_blk (i := 7) hB
  have e8 := cell_blk (i := 8) hB
  have e9 := cell_blk (i := 9) hB
  have e10 := cell_blk (i := 10) hB
  have e11 := cell_blk (i := 11) hB
  have e12 := cell_blk (i := 12) hB
  have ef0 := free_blk (i := 0) hB
  have ef1 := free_blk (i := 1) hB
  have ef2 := free_blk (i := 2) hB
  have ef3 := free_blk (i := 3) hB
  have ef4 := free_blk (i := 4) hB
  have ef5 := free_blk (i := 5) hB
  have ef6 := free_blk (i := 6) hB
  have ef7 := free_blk (i := 7) hB
  have ef8 := free_blk (i := 8) hB
  have ef9 := free_blk (i := 9) hB
  have ef10 := free_blk (i := 10) hB
  have ef11 := free_blk (i := 11) hB
  have ef12 := free_blk (i := 12) hB
  simp at e0 e1 e2 e3 e4 e5 e6 e7 e8 e9 e10 e11 e12
  have cx0 := cell_blk (i := 0) hX
  have cx1 := cell_blk (i := 1) hX
  have cx2 := cell_blk (i := 2) hX
  have cx3 := cell_blk (i := 3) hX
  have cx4 := cell_blk (i := 4) hX
  have cx5 := cell_blk (i := 5) hX
  have cx6 := cell_blk (i := 6) hX
  have cx7 := cell_blk (i := 7) hX
  have cx8 := cell_blk (i := 8) hX
  have cx9 := cell_blk (i := 9) hX
  have cx10 := cell_blk (i := 10) hX
  have cx11 := cell_blk (i := 11) hX
  have cx12 := cell_blk (i := 12) hX
  have cxf0 := free_blk (i := 0) hX
  have cxf1 := free_blk (i := 1) hX
  have cxf2 := free_blk (i := 2) hX
  have cxf3 := free_blk (i := 3) hX
  have cxf4 := free_blk (i := 4) hX
  have cxf5 := free_blk (i := 5) hX
  have cxf6 := free_blk (i := 6) hX
  have cxf7 := free_blk (i := 7) hX
  have cxf8 := free_blk (i := 8) hX
  have cxf9 := free_blk (i := 9) hX
  have cxf10 := free_blk (i := 10) hX
  have cxf11 := free_blk (i := 11) hX
  have cxf12 := free_blk (i := 12) hX
  simp at cx0 cx1 cx2 cx3 cx4 cx5 cx6 cx7 cx8 cx9 cx10 cx11 cx12
  clear hB hX g8 r8 M
  go_wp2
  refine bodyPost_ret (v := .agg #[.int .u8 10, .int .u8 0, .int .u8 0, .int .i64 0, .int .u8 0, .int .u8 0, .int .u8 0, .int .u8 0, .slice none 0 0, .bool false, .int .u8 0, .int .u8 0, .int .u8 0]) (by simp [results, Tryz.results132, go_sem, e0, e1, e2, e3, e4, e5, e6, e7, e8, e9, e10, e11, e12]) rfl ?_
  exact ⟨⟨10, 0, .zero, false, .zero⟩, none, 0, 0, s8, rfl, ExAt.at_leaf _ _ _ _ _ _ _, Res.bind R2.out (Res.closed (f := pBody E.ts 10) (Res.pure _ _) R8.out), (by repeat (first | (with_reducible exact GG.out) | (with_reducible refine RGoes.alloc ?_ _) | (with_reducible refine RGoes.drew ?_) | ((with_reducible refine RGoes.store ?_ HE.out ?_ _); rotate_left; focus (first | (simp; done) | (simp; omega) | omega))))⟩
end Go.Proofs.YtmhpopkbmnhkkaaGreatDoor
