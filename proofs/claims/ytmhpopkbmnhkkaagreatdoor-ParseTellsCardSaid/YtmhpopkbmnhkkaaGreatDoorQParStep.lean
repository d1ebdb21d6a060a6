import Derived.Test.YtmhpopkbmnhkkaaGreatDoorQParEx2
import Derived.MapKept
/- Layer 2 (parse): steps, by their words. -/
namespace Go.Proofs.YtmhpopkbmnhkkaaGreatDoor
open Go.RowKit Go.Lib

theorem expr_any : ∀ k, ExprSaid k
  | 0 => expr_of 0 nested_zero
  | k + 1 => expr_of (k + 1) (nested_succ k (expr_any k))
theorem expr_five (E : Env) (s : RS) (w : World) (h : Rd w E s 0) : Calls Tryz.prog 42 #[.pointer (some ⟨E.R, 0, none⟩)] w (ExEnds (pExpr E.ts 5) E s 0 5 w) := expr_any 5 E s 0 w (by decide) h

set_option maxHeartbeats 1000000 in
set_option maxRecDepth 100000 in
theorem need_any (E : Env) (s : RS) (w : World) (h : Rd w E s 0) :
    Calls Tryz.prog 117 #[.pointer (some ⟨E.R, 0, none⟩)] w (ExEnds (pNeed E.ts) E s 0 5 w) := by
  have HE := Lib.hid h.both
  have GG := Lib.hid (Goes.start h)
  have hlt := h.lt
  clear h
  go_enter Tryz.func117, Tryz.ntmps117
  go_wp2_with fail
  refine (mark_any E s 0 _ ⟨#[110, 101, 101, 100, 115]⟩ (by decide) (Goes.rd (w := w) (by repeat (first | (with_reducible exact GG.out) | (with_reducible refine Goes.alloc ?_ _) | (with_reducible refine Goes.drew ?_) | ((with_reducible refine Goes.store ?_ HE.out ?_ _); rotate_left; focus (first | (simp; done) | (simp; omega) | omega)))))).mono ?_
  rintro e w1 ⟨rfl, s1, r1, g1⟩
  have HB : Hid (w1.heap[w.heap.size]? = some (.cells #[.int .u8 0, .int .i64 0, .int .u8 0, .int .u8 0, .int .u8 0, .int .u8 0, .slice none 0 0] 46 (0, 0))) := by refine g1.kept.heap (by omega) ?_; exact (by repeat (first | (with_reducible exact HB.out) | (with_reducible exact heap_alloc_new _ _) | (with_reducible refine heap_old ?_) | (with_reducible refine heap_drew ?_) | ((with_reducible refine heap_other ?_ ?_); rotate_left; focus (first | (simp; done) | (simp; omega) | omega))))
  have GG := Lib.hid (Goes.trans (w := w) (E := E) (s := s) (d := 0) (by repeat (first | (with_reducible exact GG.out) | (with_reducible refine Goes.alloc ?_ _) | (with_reducible refine Goes.drew ?_) | ((with_reducible refine Goes.store ?_ HE.out ?_ _); rotate_left; focus (first | (simp; done) | (simp; omega) | omega)))) g1)
  have sz1 : w.heap.size < w1.heap.size := heap_lt HB.out
  have R1 := Lib.hid r1
  clear r1 g1
  go_wp2_with fail
  refine (expr_five E s1 _ (Goes.rd (w := w) (by repeat (first | (with_reducible exact GG.out) | (with_reducible refine Goes.alloc ?_ _) | (with_reducible refine Goes.drew ?_) | ((with_reducible refine Goes.store ?_ HE.out ?_ _); rotate_left; focus (first | (simp; done) | (simp; omega) | omega)))))).mono ?_
  rintro e w2 ⟨x, va, vn, vc, s2, rfl, hx, r2, g2⟩
  have hB : w2.heap[w.heap.size]? = some (.cells #[.int .u8 0, .int .i64 0, .int .u8 0, .int .u8 0, .int .u8 0, .int .u8 0, .slice none 0 0] 46 (0, 0)) := by refine g2.kept.heap (by omega) ?_; exact (by repeat (first | (with_reducible exact HB.out) | (with_reducible exact heap_alloc_new _ _) | (with_reducible refine heap_old ?_) | (with_reducible refine heap_drew ?_) | ((with_reducible refine heap_other ?_ ?_); rotate_left; focus (first | (simp; done) | (simp; omega) | omega))))
  have e0 := cell_blk (i := 0) hB
  have e1 := cell_blk (i := 1) hB
  have e2 := cell_blk (i := 2) hB
  have e3 := cell_blk (i := 3) hB
  have e4 := cell_blk (i := 4) hB
  have e5 := cell_blk (i := 5) hB
  have e6 := cell_blk (i := 6) hB
  have ef0 := free_blk (i := 0) hB
  have ef1 := free_blk (i := 1) hB
  have ef2 := free_blk (i := 2) hB
  have ef3 := free_blk (i := 3) hB
  have ef4 := free_blk (i := 4) hB
  have ef5 := free_blk (i := 5) hB
  have ef6 := free_blk (i := 6) hB
  simp at e0 e1 e2 e3 e4 e5 e6
  have GG := Lib.hid (Goes.trans (w := w) (E := E) (s := s1) (d := 0) (by repeat (first | (with_reducible exact GG.out) | (with_reducible refine Goes.alloc ?_ _) | (with_reducible refine Goes.drew ?_) | ((with_reducible refine Goes.store ?_ HE.out ?_ _); rotate_left; focus (first | (simp; done) | (simp; omega) | omega)))) g2)
  have HR := Lib.hid (And.intro hx r2)
  clear hx r2 g2 hB
  go_wp2
  refine bodyPost_ret (v := .agg #[.int .u8 x.op, .int .i64 x.n, .int .u8 x.side, .int .u8 x.sel.side, .int .u8 x.sel.zone, .int .u8 x.sel.kind, .slice va vn vc]) (by simp [results, Tryz.results117, go_sem, e0, e1, e2, e3, e4, e5, e6]) rfl ?_
  exact ⟨x, va, vn, vc, s2, rfl, frames_above (w := w2) (B := w1.heap.size) (ExAt.frames 5) HR.out.1 (by repeat (first | (with_reducible exact Above.refl _ _) | (with_reducible refine Above.alloc ?_ _) | (with_reducible refine Above.drew ?_) | ((with_reducible refine Above.setCell ?_ ?_ _); rotate_left; focus (first | (simp; done) | (simp; omega) | omega)))) (by omega), Res.bind R1.out HR.out.2, (by repeat (first | (with_reducible exact GG.out) | (with_reducible refine Goes.alloc ?_ _) | (with_reducible refine Goes.drew ?_) | ((with_reducible refine Goes.store ?_ HE.out ?_ _); rotate_left; focus (first | (simp; done) | (simp; omega) | omega))))⟩

/-- A step is handed back. -/
def StEnds (p : Par St) (E : Env) (s : RS) (w : World) (e : Ending) (w' : World) : Prop := ∃ (x : St) (va : Option Addr) (vn vc : Nat) (s' : RS),
  e = .returned (.agg #[.int .u8 x.dof, .int .u8 x.side, .int .u8 (Ex.op x.n), .int .i64 (Ex.n x.n), .int .u8 (Ex.side x.n), .int .u8 (Ex.sel x.n).side, .int .u8 (Ex.sel x.n).zone, .int .u8 (Ex.sel x.n).kind, .slice va vn vc, .bool x.all, .int .u8 (Sl.side x.sel), .int .u8 (Sl.zone x.sel), .int .u8 (Sl.kind x.sel)]) ∧ ExAt 5 w' (From w.heap.size) (exV x.n (.slice va vn vc)) x.n ∧ Res p s x s' ∧ Goes w E s' 0 w'

/-- Which cards a step is about is read behind what is known of it. -/
def OfEnds (x : St) (va : Option Addr) (vn vc : Nat) (E : Env) (s : RS) (w : World) (e : Ending) (w' : World) : Prop := ∃ (b : Bool) (sl : Sl) (s' : RS),
  e = .returned (.agg #[.int .u8 x.dof, .int .u8 x.side, .int .u8 (Ex.op x.n), .int .i64 (Ex.n x.n), .int .u8 (Ex.side x.n), .int .u8 (Ex.sel x.n).side, .int .u8 (Ex.sel x.n).zone, .int .u8 (Ex.sel x.n).kind, .slice va vn vc, .bool b, .int .u8 (Sl.side sl), .int .u8 (Sl.zone sl), .int .u8 (Sl.kind sl)]) ∧ Res (pOf E.ts x) s { x with all := b, sel := sl } s' ∧ Goes w E s' 0 w'

set_option maxHeartbeats 2000000 in
set_option maxRecDepth 100000 in
theorem of_any (E : Env) (s : RS) (w : World) (x : St) (va : Option Addr) (vn vc : Nat) (hx : x.all = false ∧ x.sel = .zero) (h : Rd w E s 0) :
    Calls Tryz.prog 154 #[.pointer (some ⟨E.R, 0, none⟩), .agg #[.int .u8 x.dof, .int .u8 x.side, .int .u8 (Ex.op x.n), .int .i64 (Ex.n x.n), .int .u8 (Ex.side x.n), .int .u8 (Ex.sel x.n).side, .int .u8 (Ex.sel x.n).zone, .int .u8 (Ex.sel x.n).kind, .slice va vn vc, .bool false, .int .u8 0, .int .u8 0, .int .u8 0]] w (OfEnds x va vn vc E s w) := by
  have hnext := next_reads E s 0
  have HX := Lib.hid hnext
  have HE := Lib.hid h.both
  have GG := Lib.hid (Goes.start h)
  have hlt := h.lt
  clear hnext
  have hxx : Hid (x = { x with all := false, sel := .zero }) := by obtain ⟨a, b⟩ := hx; cases x; simp_all [Hid]
  rcases sees_or h ⟨#[59]⟩ (by decide) with ⟨p, rfl, hp, ht⟩ | ht
  · have hpe : Hid (Res (pOf E.ts x) (.ok p) { x with all := false, sel := .zero } (.ok p)) := Res.of_ok (by rw [pOf, if_pos ht, ← hxx.out])
    have ht' : (E.tok (.ok p)).text = ⟨#[59]⟩ := ht
    clear h hp ht hx hxx
    go_enter Tryz.func154, Tryz.ntmps154
    go_wp2_with fail
    refine (HX.out _ (Goes.rd (w := w) (by repeat (first | (with_reducible exact GG.out) | (with_reducible refine Goes.alloc ?_ _) | (with_reducible refine Goes.drew ?_) | ((with_reducible refine Goes.store ?_ HE.out ?_ _); rotate_left; focus (first | (simp; done) | (simp; omega) | omega)))))).mono ?_
    rintro e w1 ⟨rfl, b1⟩
    have hX : w1.heap[w.heap.size]? = some (.cells #[.int .u8 x.dof, .int .u8 x.side, .int .u8 (Ex.op x.n), .int .i64 (Ex.n x.n), .int .u8 (Ex.side x.n), .int .u8 (Ex.sel x.n).side, .int .u8 (Ex.sel x.n).zone, .int .u8 (Ex.sel x.n).kind, .slice va vn vc, .bool false, .int .u8 0, .int .u8 0, .int .u8 0] 58 (0, 0)) := by refine (b1.block _ (by simp; omega)).trans ?_; exact heap_old (heap_alloc_new _ _)
    have hB : w1.heap[w.heap.size + 1]? = some (.cells #[.int .u8 0, .int .u8 0, .int .u8 0, .int .i64 0, .int .u8 0, .int .u8 0, .int .u8 0, .int .u8 0, .slice none 0 0, .bool false, .int .u8 0, .int .u8 0, .int .u8 0] 58 (0, 0)) := by refine (b1.block _ (by simp)).trans ?_; exact heap_new_at _ _ _ (by simp)
    have cx0 := cell_blk (i := 0) hX
    have cx1 := cell_blk (i := 1) hX
    have cx2 := cell_blk (i := 2) hX
    have cx3 := cell_blk (i := 3) hX
    have cx4 := cell_blk (i := 4) hX
    have cx5 := cell_blk (i := 5) hX
    have cx6 := cell_blk (i := 6) hX
    have cx7 := cell_blk (i := 7) hX
    have cx8 := cell_blk (i := 8) hX
    have cx9 := cell_blk (i := 9) hX
    have cx10 := cell_blk (i := 10) hX
    have cx11 := cell_blk (i := 11) hX
    have cx12 := cell_blk (i := 12) hX
    have cxf0 := free_blk (i := 0) hX
    have cxf1 := free_blk (i := 1) hX
    have cxf2 := free_blk (i := 2) hX
    have cxf3 := free_blk (i := 3) hX
    have cxf4 := free_blk (i := 4) hX
    have cxf5 := free_blk (i := 5) hX
    have cxf6 := free_blk (i := 6) hX
    have cxf7 := free_blk (i := 7) hX
    have cxf8 := free_blk (i := 8) hX
    have cxf9 := free_blk (i := 9) hX
    have cxf10 := free_blk (i := 10) hX
    have cxf11 := free_blk (i := 11) hX
    have cxf12 := free_blk (i := 12) hX
    simp at cx0 cx1 cx2 cx3 cx4 cx5 cx6 cx7 cx8 cx9 cx10 cx11 cx12
    have e0 := cell_blk (i := 0) hB
    have e1 := cell_blk (i := 1) hB
    have e2 := cell_blk (i := 2) hB
    have e3 := cell_blk (i := 3) hB
    have e4 := cell_blk (i := 4) hB
    have e5 := cell_blk (i := 5) hB
    have e6 := cell_blk (i := 6) hB
    have e7 := cell_blk (i := 7) hB
    have e8 := cell_blk (i := 8) hB
    have e9 := cell_blk (i := 9) hB
    have e10 := cell_blk (i := 10) hB
    have e11 := cell_blk (i := 11) hB
    have e12 := cell_blk (i := 12) hB
    have ef0 := free_blk (i := 0) hB
    have ef1 := free_blk (i := 1) hB
    have ef2 := free_blk (i := 2) hB
    have ef3 := free_blk (i := 3) hB
    have ef4 := free_blk (i := 4) hB
    have ef5 := free_blk (i := 5) hB
    have ef6 := free_blk (i := 6) hB
    have ef7 := free_blk (i := 7) hB
    have ef8 := free_blk (i := 8) hB
    have ef9 := free_blk (i := 9) hB
    have ef10 := free_blk (i := 10) hB
    have ef11 := free_blk (i := 11) hB
    have ef12 := free_blk (i := 12) hB
    simp at e0 e1 e2 e3 e4 e5 e6 e7 e8 e9 e10 e11 e12
    have GG := Lib.hid (Goes.below (w := w) (E := E) (s := .ok p) (d := 0) (by repeat (first | (with_reducible exact GG.out) | (with_reducible refine Goes.alloc ?_ _) | (with_reducible refine Goes.drew ?_) | ((with_reducible refine Goes.store ?_ HE.out ?_ _); rotate_left; focus (first | (simp; done) | (simp; omega) | omega)))) b1)
    have sz1 : w.heap.size + 1 < w1.heap.size := heap_lt hB
    generalize E.tok (.ok p) = t at *
    obtain ⟨kd, tx, l, c⟩ := t
    simp only [] at ht'
    subst ht'
    have hf1 := tokf1 kd ⟨#[59]⟩ l c
    clear b1 hX hB
    go_wp2
    refine bodyPost_ret (v := .agg #[.int .u8 x.dof, .int .u8 x.side, .int .u8 (Ex.op x.n), .int .i64 (Ex.n x.n), .int .u8 (Ex.side x.n), .int .u8 (Ex.sel x.n).side, .int .u8 (Ex.sel x.n).zone, .int .u8 (Ex.sel x.n).kind, .slice va vn vc, .bool false, .int .u8 0, .int .u8 0, .int .u8 0]) (by simp [results, Tryz.results154, go_sem, e0, e1, e2, e3, e4, e5, e6, e7, e8, e9, e10, e11, e12]) rfl ?_
    exact ⟨false, .zero, .ok p, rfl, hpe.out, (by repeat (first | (with_reducible exact GG.out) | (with_reducible refine Goes.alloc ?_ _) | (with_reducible refine Goes.drew ?_) | ((with_reducible refine Goes.store ?_ HE.out ?_ _); rotate_left; focus (first | (simp; done) | (simp; omega) | omega))))⟩
  · have hpe : Hid (∀ sl s', Res (pSel E.ts) s sl s' → Res (pOf E.ts x) s { x with all := true, sel := sl } s') := fun sl s' hr => by
      refine Res.congr (f := (pSel E.ts).map fun y => { x with all := true, sel := y }) (fun q hq => ?_) (Res.map _ hr)
      subst hq
      rw [pOf, if_neg (show ¬ (tk E.ts q).text = ⟨#[59]⟩ from ht)]
    have hne := str_ne_l ht
    have hne2 : ((E.tok s).text.toList != [59]) = true := by rw [bne, hne]; rfl
    clear h ht hx hxx
    go_enter Tryz.func154, Tryz.ntmps154
    go_wp2_with fail
    refine (HX.out _ (Goes.rd (w := w) (by repeat (first | (with_reducible exact GG.out) | (with_reducible refine Goes.alloc ?_ _) | (with_reducible refine Goes.drew ?_) | ((with_reducible refine Goes.store ?_ HE.out ?_ _); rotate_left; focus (first | (simp; done) | (simp; omega) | omega)))))).mono ?_
    rintro e w1 ⟨rfl, b1⟩
    have hX : w1.heap[w.heap.size]? = some (.cells #[.int .u8 x.dof, .int .u8 x.side, .int .u8 (Ex.op x.n), .int .i64 (Ex.n x.n), .int .u8 (Ex.side x.n), .int .u8 (Ex.sel x.n).side, .int .u8 (Ex.sel x.n).zone, .int .u8 (Ex.sel x.n).kind, .slice va vn vc, .bool false, .int .u8 0, .int .u8 0, .int .u8 0] 58 (0, 0)) := by refine (b1.block _ (by simp; omega)).trans ?_; exact heap_old (heap_alloc_new _ _)
    have hB : w1.heap[w.heap.size + 1]? = some (.cells #[.int .u8 0, .int .u8 0, .int .u8 0, .int .i64 0, .int .u8 0, .int .u8 0, .int .u8 0, .int .u8 0, .slice none 0 0, .bool false, .int .u8 0, .int .u8 0, .int .u8 0] 58 (0, 0)) := by refine (b1.block _ (by simp)).trans ?_; exact heap_new_at _ _ _ (by simp)
    have cx0 := cell_blk (i := 0) hX
    have cx1 := cell_blk (i := 1) hX
    have cx2 := cell_blk (i := 2) hX
    have cx3 := cell_blk (i := 3) hX
    have cx4 := cell_blk (i := 4) hX
    have cx5 := cell_blk (i := 5) hX
    have cx6 := cell_blk (i := 6) hX
    have cx7 := cell_blk (i := 7) hX
    have cx8 := cell_blk (i := 8) hX
    have cx9 := cell_blk (i := 9) hX
    have cx10 := cell_blk (i := 10) hX
    have cx11 := cell_blk (i := 11) hX
    have cx12 := cell_blk (i := 12) hX
    have cxf0 := free_blk (i := 0) hX
    have cxf1 := free_blk (i := 1) hX
    have cxf2 := free_blk (i := 2) hX
    have cxf3 := free_blk (i := 3) hX
    have cxf4 := free_blk (i := 4) hX
    have cxf5 := free_blk (i := 5) hX
    have cxf6 := free_blk (i := 6) hX
    have cxf7 := free_blk (i := 7) hX
    have cxf8 := free_blk (i := 8) hX
    have cxf9 := free_blk (i := 9) hX
    have cxf10 := free_blk (i := 10) hX
    have cxf11 := free_blk (i := 11) hX
    have cxf12 := free_blk (i := 12) hX
    simp at cx0 cx1 cx2 cx3 cx4 cx5 cx6 cx7 cx8 cx9 cx10 cx11 cx12
    have GG := Lib.hid (Goes.below (w := w) (E := E) (s := s) (d := 0) (by repeat (first | (with_reducible exact GG.out) | (with_reducible refine Goes.alloc ?_ _) | (with_reducible refine Goes.drew ?_) | ((with_reducible refine Goes.store ?_ HE.out ?_ _); rotate_left; focus (first | (simp; done) | (simp; omega) | omega)))) b1)
    have sz1 : w.heap.size + 1 < w1.heap.size := heap_lt hB
    have HX1 := Lib.hid hX
    have HB := Lib.hid hB
    generalize E.tok s = t at *
    obtain ⟨kd, tx, l, c⟩ := t
    simp only [] at hne hne2
    have hf1 := tokf1 kd tx l c
    clear b1 hX hB
    go_wp2_with fail
    refine (sel_any E s 0 _ (Goes.rd (w := w) (by repeat (first | (with_reducible exact GG.out) | (with_reducible refine Goes.alloc ?_ _) | (with_reducible refine Goes.drew ?_) | ((with_reducible refine Goes.store ?_ HE.out ?_ _); rotate_left; focus (first | (simp; done) | (simp; omega) | omega)))))).mono ?_
    rintro e w2 ⟨sl, s2, rfl, r2, g2⟩
    have hX : w2.heap[w.heap.size]? = some (.cells #[.int .u8 x.dof, .int .u8 x.side, .int .u8 (Ex.op x.n), .int .i64 (Ex.n x.n), .int .u8 (Ex.side x.n), .int .u8 (Ex.sel x.n).side, .int .u8 (Ex.sel x.n).zone, .int .u8 (Ex.sel x.n).kind, .slice va vn vc, .bool true, .int .u8 0, .int .u8 0, .int .u8 0] 58 (0, 0)) := by refine g2.kept.heap (by omega) ?_; exact heap_set_to HX1.out rfl
    have hB : w2.heap[w.heap.size + 1]? = some (.cells #[.int .u8 0, .int .u8 0, .int .u8 0, .int .i64 0, .int .u8 0, .int .u8 0, .int .u8 0, .int .u8 0, .slice none 0 0, .bool false, .int .u8 0, .int .u8 0, .int .u8 0] 58 (0, 0)) := by refine g2.kept.heap (by omega) ?_; exact heap_other HB.out (by simp)
    have GG := Lib.hid (Goes.trans (w := w) (E := E) (s := s) (d := 0) (by repeat (first | (with_reducible exact GG.out) | (with_reducible refine Goes.alloc ?_ _) | (with_reducible refine Goes.drew ?_) | ((with_reducible refine Goes.store ?_ HE.out ?_ _); rotate_left; focus (first | (simp; done) | (simp; omega) | omega)))) g2)
    have R2 := Lib.hid r2
    clear cx0 cx1 cx2 cx3 cx4 cx5 cx6 cx7 cx8 cx9 cx10 cx11 cx12 cxf0 cxf1 cxf2 cxf3 cxf4 cxf5 cxf6 cxf7 cxf8 cxf9 cxf10 cxf11 cxf12 r2 g2
    have cx0 := cell_blk (i := 0) hX
    have cx1 := cell_blk (i := 1) hX
    have cx2 := cell_blk (i := 2) hX
    have cx3 := cell_blk (i := 3) hX
    have cx4 := cell_blk (i := 4) hX
    have cx5 := cell_blk (i := 5) hX
    have cx6 := cell_blk (i := 6) hX
    have cx7 := cell_blk (i := 7) hX
    have cx8 := cell_blk (i := 8) hX
    have cx9 := cell_blk (i := 9) hX
    have cx10 := cell_blk (i := 10) hX
    have cx11 := cell_blk (i := 11) hX
    have cx12 := cell_blk (i := 12) hX
    have cxf0 := free_blk (i := 0) hX
    have cxf1 := free_blk (i := 1) hX
    have cxf2 := free_blk (i := 2) hX
    have cxf3 := free_blk (i := 3) hX
    have cxf4 := free_blk (i := 4) hX
    have cxf5 := free_blk (i := 5) hX
    have cxf6 := free_blk (i := 6) hX
    have cxf7 := free_blk (i := 7) hX
    have cxf8 := free_blk (i := 8) hX
    have cxf9 := free_blk (i := 9) hX
    have cxf10 := free_blk (i := 10) hX
    have cxf11 := free_blk (i := 11) hX
    have cxf12 := free_blk (i := 12) hX
    simp at cx0 cx1 cx2 cx3 cx4 cx5 cx6 cx7 cx8 cx9 cx10 cx11 cx12
    have e0 := cell_blk (i := 0) hB
    have e1 := cell_blk (i := 1) hB
    have e2 := cell_blk (i := 2) hB
    have e3 := cell_blk (i := 3) hB
    have e4 := cell_blk (i := 4) hB
    have e5 := cell_blk (i := 5) hB
    have e6 := cell_blk (i := 6) hB
    have e7 := cell_blk (i := 7) hB
    have e8 := cell_blk (i := 8) hB
    have e9 := cell_blk (i := 9) hB
    have e10 := cell_blk (i := 10) hB
    have e11 := cell_blk (i := 11) hB
    have e12 := cell_blk (i := 12) hB
    have ef0 := free_blk (i := 0) hB
    have ef1 := free_blk (i := 1) hB
    have ef2 := free_blk (i := 2) hB
    have ef3 := free_blk (i := 3) hB
    have ef4 := free_blk (i := 4) hB
    have ef5 := free_blk (i := 5) hB
    have ef6 := free_blk (i := 6) hB
    have ef7 := free_blk (i := 7) hB
    have ef8 := free_blk (i := 8) hB
    have ef9 := free_blk (i := 9) hB
    have ef10 := free_blk (i := 10) hB
    have ef11 := free_blk (i := 11) hB
    have ef12 := free_blk (i := 12) hB
    simp at e0 e1 e2 e3 e4 e5 e6 e7 e8 e9 e10 e11 e12
    clear hX hB
    go_wp2
    refine bodyPost_ret (v := .agg #[.int .u8 x.dof, .int .u8 x.side, .int .u8 (Ex.op x.n), .int .i64 (Ex.n x.n), .int .u8 (Ex.side x.n), .int .u8 (Ex.sel x.n).side, .int .u8 (Ex.sel x.n).zone, .int .u8 (Ex.sel x.n).kind, .slice va vn vc, .bool true, .int .u8 (Sl.side sl), .int .u8 (Sl.zone sl), .int .u8 (Sl.kind sl)]) (by simp [results, Tryz.results154, go_sem, e0, e1, e2, e3, e4, e5, e6, e7, e8, e9, e10, e11, e12]) rfl ?_
    exact ⟨true, sl, s2, rfl, hpe.out _ _ R2.out, (by repeat (first | (with_reducible exact GG.out) | (with_reducible refine Goes.alloc ?_ _) | (with_reducible refine Goes.drew ?_) | ((with_reducible refine Goes.store ?_ HE.out ?_ _); rotate_left; focus (first | (simp; done) | (simp; omega) | omega))))⟩
end Go.Proofs.YtmhpopkbmnhkkaaGreatDoor
