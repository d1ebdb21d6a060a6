/- Layer 2 (parse): an expression, if what stands in parentheses is read so deep. -/
import Derived.Test.YtaffgdgdojdoiaaGreatDoorParEx0
namespace Go.Proofs.YtaffgdgdojdoiaaGreatDoor
open Go.RowKit Go.Lib

theorem pExpr_at (ts : List Tok) (k p : Nat) : pExpr ts k p = pExprBy ts (pNestAt ts k) p := by rw [pExpr_by]
theorem res_expr {ts : List Tok} {k : Nat} {s s' : RS} {x : Ex} {f : Par Ex} (hf : ∀ p, s = .ok p → pExpr ts k p = f p) (h : Res f s x s') : Res (pExpr ts k) s x s' := h.congr fun p hp => (hf p hp).symm

set_option maxHeartbeats 2000000 in
set_option maxRecDepth 100000 in
theorem expr_of (k : Nat) (hn : NestedSaid k) : ExprSaid k := by
  intro E s d w hd h
  have HN := Lib.hid hn
  have hnext := next_reads E s d
  have HE := Lib.hid h.both
  have GG := Lib.hid (Goes.start h)
  have hlt := h.lt
  have HD := Lib.hid hd
  have HX := Lib.hid hnext
  clear hn hnext hd
  rcases sees_or h ⟨#[40]⟩ (by decide) with ⟨p, rfl, hp, ht⟩ | ht1
  · have ht' : (E.tok (.ok p)).text = ⟨#[40]⟩ := ht
    have hpe : Hid (∀ q, RS.ok p = .ok q → pExpr E.ts k q = pNestAt E.ts k q) := fun q hq => by cases hq; rw [pExpr_at, pExprBy, if_pos ht]
    clear h hp ht
    go_enter Tryz.func28, Tryz.ntmps28
    go_wp2_with fail
    refine (HX.out _ (Goes.rd (w := w) (by repeat (first | (with_reducible exact GG.out) | (with_reducible refine Goes.alloc ?_ _) | (with_reducible refine Goes.drew ?_) | ((with_reducible refine Goes.store ?_ HE.out ?_ _); rotate_left; focus (first | (simp; done) | (simp; omega) | omega)))))).mono ?_
    rintro e w1 ⟨rfl, b1⟩
    have HB : Hid (w1.heap[w.heap.size]? = some (.cells #[.int .u8 0, .int .i64 0, .int .u8 0, .int .u8 0, .int .u8 0, .int .u8 0, .slice none 0 0] 50 (0, 0))) := by refine (b1.block _ (by simp)).trans ?_; exact (by repeat (first | (with_reducible exact HB.out) | (with_reducible exact heap_alloc_new _ _) | (with_reducible refine heap_old ?_) | (with_reducible refine heap_drew ?_) | ((with_reducible refine heap_other ?_ ?_); rotate_left; focus (first | (simp; done) | (simp; omega) | omega))))
    have GG := Lib.hid (Goes.below (w := w) (E := E) (s := .ok p) (d := d) (by repeat (first | (with_reducible exact GG.out) | (with_reducible refine Goes.alloc ?_ _) | (with_reducible refine Goes.drew ?_) | ((with_reducible refine Goes.store ?_ HE.out ?_ _); rotate_left; focus (first | (simp; done) | (simp; omega) | omega)))) b1)
    have sz1 : w.heap.size < w1.heap.size := heap_lt HB.out
    generalize E.tok (.ok p) = t at *
    obtain ⟨kd, tx, l, c⟩ := t
    simp only [] at ht'
    subst ht'
    have hf1 := tokf1 kd ⟨#[40]⟩ l c
    clear b1
    go_wp2_with fail
    refine (HN.out E _ d _ HD.out (Goes.rd (w := w) (by repeat (first | (with_reducible exact GG.out) | (with_reducible refine Goes.alloc ?_ _) | (with_reducible refine Goes.drew ?_) | ((with_reducible refine Goes.store ?_ HE.out ?_ _); rotate_left; focus (first | (simp; done) | (simp; omega) | omega)))))).mono ?_
    rintro e w2 ⟨x, va, vn, vc, s2, rfl, hx, hr, g2⟩
    have hB : w2.heap[w.heap.size]? = some (.cells #[.int .u8 0, .int .i64 0, .int .u8 0, .int .u8 0, .int .u8 0, .int .u8 0, .slice none 0 0] 50 (0, 0)) := by refine g2.kept.heap (by omega) ?_; exact (by repeat (first | (with_reducible exact HB.out) | (with_reducible exact heap_alloc_new _ _) | (with_reducible refine heap_old ?_) | (with_reducible refine heap_drew ?_) | ((with_reducible refine heap_other ?_ ?_); rotate_left; focus (first | (simp; done) | (simp; omega) | omega))))
    have e0 := cell_blk (i := 0) hB
    have e1 := cell_blk (i := 1) hB
    have e2 := cell_blk (i := 2) hB
    have e3 := cell_blk (i := 3) hB
    have e4 := cell_blk (i := 4) hB
    have e5 := cell_blk (i := 5) hB
    have e6 := cell_blk (i := 6) hB
    have ef0 := free_blk (i := 0) hB
    have ef1 := free_blk (i := 1) hB
    have ef2 := free_blk (i := 2) hB
    have ef3 := free_blk (i := 3) hB
    have ef4 := free_blk (i := 4) hB
    have ef5 := free_blk (i := 5) hB
    have ef6 := free_blk (i := 6) hB
    simp at e0 e1 e2 e3 e4 e5 e6
    have GG := Lib.hid (Goes.trans (w := w) (E := E) (s := .ok p) (d := d) (by repeat (first | (with_reducible exact GG.out) | (with_reducible refine Goes.alloc ?_ _) | (with_reducible refine Goes.drew ?_) | ((with_reducible refine Goes.store ?_ HE.out ?_ _); rotate_left; focus (first | (simp; done) | (simp; omega) | omega)))) g2)
    have HR := Lib.hid (And.intro hx hr)
    clear hx hr g2 hB
    go_wp2
    refine bodyPost_ret (v := .agg #[.int .u8 x.op, .int .i64 x.n, .int .u8 x.side, .int .u8 x.sel.side, .int .u8 x.sel.zone, .int .u8 x.sel.kind, .slice va vn vc]) (by simp [results, Tryz.results28, go_sem, e0, e1, e2, e3, e4, e5, e6]) rfl ?_
    exact ⟨x, va, vn, vc, s2, rfl, frames_above (ExAt.frames k) HR.out.1 (by repeat (first | (with_reducible exact Above.refl _ _) | (with_reducible refine Above.alloc ?_ _) | (with_reducible refine Above.drew ?_) | ((with_reducible refine Above.setCell ?_ ?_ _); rotate_left; focus (first | (simp; done) | (simp; omega) | omega)))) (by omega), res_expr hpe.out HR.out.2, (by repeat (first | (with_reducible exact GG.out) | (with_reducible refine Goes.alloc ?_ _) | (with_reducible refine Goes.drew ?_) | ((with_reducible refine Goes.store ?_ HE.out ?_ _); rotate_left; focus (first | (simp; done) | (simp; omega) | omega))))⟩
  · have hne := str_ne_l ht1
    rcases sees_or h ⟨#[108, 105, 102, 101]⟩ (by decide) with ⟨p, rfl, hp, ht⟩ | ht2
    · have hpe : Hid (∀ q, RS.ok p = .ok q → pExpr E.ts k q = (fun q => (pOne E.ts sidesW).map (fun s => Ex.mk 1 0 s .zero []) (q + 1)) q) := fun q hq => by cases hq; rw [pExpr_at, pExprBy, if_neg (show ¬ (tk E.ts p).text = ⟨#[40]⟩ from ht1), if_pos ht]
      have hsk : Hid (∀ W, Rd W E (.ok p) d → _) := fun W hW => skip_yes E p d W ⟨#[108, 105, 102, 101]⟩ hW hp ht
      clear h hp ht ht1
      go_enter Tryz.func28, Tryz.ntmps28
      go_wp2_with fail
      refine (HX.out _ (Goes.rd (w := w) (by repeat (first | (with_reducible exact GG.out) | (with_reducible refine Goes.alloc ?_ _) | (with_reducible refine Goes.drew ?_) | ((with_reducible refine Goes.store ?_ HE.out ?_ _); rotate_left; focus (first | (simp; done) | (simp; omega) | omega)))))).mono ?_
      rintro e w1 ⟨rfl, b1⟩
      have HB : Hid (w1.heap[w.heap.size]? = some (.cells #[.int .u8 0, .int .i64 0, .int .u8 0, .int .u8 0, .int .u8 0, .int .u8 0, .slice none 0 0] 50 (0, 0))) := by refine (b1.block _ (by simp)).trans ?_; exact (by repeat (first | (with_reducible exact HB.out) | (with_reducible exact heap_alloc_new _ _) | (with_reducible refine heap_old ?_) | (with_reducible refine heap_drew ?_) | ((with_reducible refine heap_other ?_ ?_); rotate_left; focus (first | (simp; done) | (simp; omega) | omega))))
      have GG := Lib.hid (Goes.below (w := w) (E := E) (s := .ok p) (d := d) (by repeat (first | (with_reducible exact GG.out) | (with_reducible refine Goes.alloc ?_ _) | (with_reducible refine Goes.drew ?_) | ((with_reducible refine Goes.store ?_ HE.out ?_ _); rotate_left; focus (first | (simp; done) | (simp; omega) | omega)))) b1)
      have sz1 : w.heap.size < w1.heap.size := heap_lt HB.out
      generalize E.tok (.ok p) = t at *
      obtain ⟨kd, tx, l, c⟩ := t
      simp only [] at hne
      have hf1 := tokf1 kd tx l c
      clear b1
      go_wp2_with fail
      refine (hsk.out _ (Goes.rd (w := w) (by repeat (first | (with_reducible exact GG.out) | (with_reducible refine Goes.alloc ?_ _) | (with_reducible refine Goes.drew ?_) | ((with_reducible refine Goes.store ?_ HE.out ?_ _); rotate_left; focus (first | (simp; done) | (simp; omega) | omega)))))).mono ?_
      rintro e w2 ⟨rfl, g2⟩
      have HB : Hid (w2.heap[w.heap.size]? = some (.cells #[.int .u8 0, .int .i64 0, .int .u8 0, .int .u8 0, .int .u8 0, .int .u8 0, .slice none 0 0] 50 (0, 0))) := by refine g2.kept.heap (by omega) ?_; exact (by repeat (first | (with_reducible exact HB.out) | (with_reducible exact heap_alloc_new _ _) | (with_reducible refine heap_old ?_) | (with_reducible refine heap_drew ?_) | ((with_reducible refine heap_other ?_ ?_); rotate_left; focus (first | (simp; done) | (simp; omega) | omega))))
      have GG := Lib.hid (Goes.trans (w := w) (E := E) (s := .ok p) (d := d) (by repeat (first | (with_reducible exact GG.out) | (with_reducible refine Goes.alloc ?_ _) | (with_reducible refine Goes.drew ?_) | ((with_reducible refine Goes.store ?_ HE.out ?_ _); rotate_left; focus (first | (simp; done) | (simp; omega) | omega)))) g2)
      have sz2 : w.heap.size < w2.heap.size := heap_lt HB.out
      clear g2
      go_wp2_with fail
      refine (side_any E _ d _ (Goes.rd (w := w) (by repeat (first | (with_reducible exact GG.out) | (with_reducible refine Goes.alloc ?_ _) | (with_reducible refine Goes.drew ?_) | ((with_reducible refine Goes.store ?_ HE.out ?_ _); rotate_left; focus (first | (simp; done) | (simp; omega) | omega)))))).mono ?_
      rintro e w3 ⟨k3, s3, rfl, r3, l3, g3⟩
      have hB : w3.heap[w.heap.size]? = some (.cells #[.int .u8 0, .int .i64 0, .int .u8 0, .int .u8 0, .int .u8 0, .int .u8 0, .slice none 0 0] 50 (0, 0)) := by refine g3.kept.heap (by omega) ?_; exact (by repeat (first | (with_reducible exact HB.out) | (with_reducible exact heap_alloc_new _ _) | (with_reducible refine heap_old ?_) | (with_reducible refine heap_drew ?_) | ((with_reducible refine heap_other ?_ ?_); rotate_left; focus (first | (simp; done) | (simp; omega) | omega))))
      have e0 := cell_blk (i := 0) hB
      have e1 := cell_blk (i := 1) hB
      have e2 := cell_blk (i := 2) hB
      have e3 := cell_blk (i := 3) hB
      have e4 := cell_blk (i := 4) hB
      have e5 := cell_blk (i := 5) hB
      have e6 := cell_blk (i := 6) hB
      have ef0 := free_blk (i := 0) hB
      have ef1 := free_blk (i := 1) hB
      have ef2 := free_blk (i := 2) hB
      have ef3 := free_blk (i := 3) hB
      have ef4 := free_blk (i := 4) hB
      have ef5 := free_blk (i := 5) hB
      have ef6 := free_blk (i := 6) hB
      simp at e0 e1 e2 e3 e4 e5 e6
      have GG := Lib.hid (Goes.trans (w := w) (E := E) (s := .ok (p + 1)) (d := d) (by repeat (first | (with_reducible exact GG.out) | (with_reducible refine Goes.alloc ?_ _) | (with_reducible refine Goes.drew ?_) | ((with_reducible refine Goes.store ?_ HE.out ?_ _); rotate_left; focus (first | (simp; done) | (simp; omega) | omega)))) g3)
      have HR := Lib.hid r3
      clear r3 l3 g3 hB
      go_wp2
      refine bodyPost_ret (v := .agg #[.int .u8 1, .int .i64 0, .int .u8 k3, .int .u8 0, .int .u8 0, .int .u8 0, .slice none 0 0]) (by simp [results, Tryz.results28, go_sem, e0, e1, e2, e3, e4, e5, e6]) rfl ?_
      exact ⟨.mk 1 0 k3 .zero [], _, _, _, s3, rfl, ExAt.at_leaf _ _ _ _ _ _ _, res_expr hpe.out (Res.map (s := .ok (p + 1)) (fun s => Ex.mk 1 0 s .zero []) HR.out), (by repeat (first | (with_reducible exact GG.out) | (with_reducible refine Goes.alloc ?_ _) | (with_reducible refine Goes.drew ?_) | ((with_reducible refine Goes.store ?_ HE.out ?_ _); rotate_left; focus (first | (simp; done) | (simp; omega) | omega))))⟩
    · rcases sees_or h ⟨#[99, 111, 117, 110, 116]⟩ (by decide) with ⟨p, rfl, hp, ht⟩ | ht3
      · have hpe : Hid (∀ q, RS.ok p = .ok q → pExpr E.ts k q = (fun q => (pSel E.ts).map (fun s => Ex.mk 2 0 0 s []) (q + 1)) q) := fun q hq => by cases hq; rw [pExpr_at, pExprBy, if_neg (show ¬ (tk E.ts p).text = ⟨#[40]⟩ from ht1), if_neg (show ¬ (tk E.ts p).text = ⟨#[108, 105, 102, 101]⟩ from ht2), if_pos ht]
        have hsn : Hid (∀ W, Rd W E (.ok p) d → _) := fun W hW => skip_no E (.ok p) d W ⟨#[108, 105, 102, 101]⟩ hW ht2
        have hsk : Hid (∀ W, Rd W E (.ok p) d → _) := fun W hW => skip_yes E p d W ⟨#[99, 111, 117, 110, 116]⟩ hW hp ht
        clear h hp ht ht1 ht2
        go_enter Tryz.func28, Tryz.ntmps28
        go_wp2_with fail
        refine (HX.out _ (Goes.rd (w := w) (by repeat (first | (with_reducible exact GG.out) | (with_reducible refine Goes.alloc ?_ _) | (with_reducible refine Goes.drew ?_) | ((with_reducible refine Goes.store ?_ HE.out ?_ _); rotate_left; focus (first | (simp; done) | (simp; omega) | omega)))))).mono ?_
        rintro e w1 ⟨rfl, b1⟩
        have HB : Hid (w1.heap[w.heap.size]? = some (.cells #[.int .u8 0, .int .i64 0, .int .u8 0, .int .u8 0, .int .u8 0, .int .u8 0, .slice none 0 0] 50 (0, 0))) := by refine (b1.block _ (by simp)).trans ?_; exact (by repeat (first | (with_reducible exact HB.out) | (with_reducible exact heap_alloc_new _ _) | (with_reducible refine heap_old ?_) | (with_reducible refine heap_drew ?_) | ((with_reducible refine heap_other ?_ ?_); rotate_left; focus (first | (simp; done) | (simp; omega) | omega))))
        have GG := Lib.hid (Goes.below (w := w) (E := E) (s := .ok p) (d := d) (by repeat (first | (with_reducible exact GG.out) | (with_reducible refine Goes.alloc ?_ _) | (with_reducible refine Goes.drew ?_) | ((with_reducible refine Goes.store ?_ HE.out ?_ _); rotate_left; focus (first | (simp; done) | (simp; omega) | omega)))) b1)
        have sz1 : w.heap.size < w1.heap.size := heap_lt HB.out
        generalize E.tok (.ok p) = t at *
        obtain ⟨kd, tx, l, c⟩ := t
        simp only [] at hne
        have hf1 := tokf1 kd tx l c
        clear b1
        go_wp2_with fail
        refine (hsn.out _ (Goes.rd (w := w) (by repeat (first | (with_reducible exact GG.out) | (with_reducible refine Goes.alloc ?_ _) | (with_reducible refine Goes.drew ?_) | ((with_reducible refine Goes.store ?_ HE.out ?_ _); rotate_left; focus (first | (simp; done) | (simp; omega) | omega)))))).mono ?_
        rintro e w2 ⟨rfl, b2⟩
        have HB : Hid (w2.heap[w.heap.size]? = some (.cells #[.int .u8 0, .int .i64 0, .int .u8 0, .int .u8 0, .int .u8 0, .int .u8 0, .slice none 0 0] 50 (0, 0))) := by refine (b2.block _ (by omega)).trans ?_; exact (by repeat (first | (with_reducible exact HB.out) | (with_reducible exact heap_alloc_new _ _) | (with_reducible refine heap_old ?_) | (with_reducible refine heap_drew ?_) | ((with_reducible refine heap_other ?_ ?_); rotate_left; focus (first | (simp; done) | (simp; omega) | omega))))
        have GG := Lib.hid (Goes.below (w := w) (E := E) (s := .ok p) (d := d) (by repeat (first | (with_reducible exact GG.out) | (with_reducible refine Goes.alloc ?_ _) | (with_reducible refine Goes.drew ?_) | ((with_reducible refine Goes.store ?_ HE.out ?_ _); rotate_left; focus (first | (simp; done) | (simp; omega) | omega)))) b2)
        have sz2 : w.heap.size < w2.heap.size := heap_lt HB.out
        clear b2
        go_wp2_with fail
        refine (hsk.out _ (Goes.rd (w := w) (by repeat (first | (with_reducible exact GG.out) | (with_reducible refine Goes.alloc ?_ _) | (with_reducible refine Goes.drew ?_) | ((with_reducible refine Goes.store ?_ HE.out ?_ _); rotate_left; focus (first | (simp; done) | (simp; omega) | omega)))))).mono ?_
        rintro e w3 ⟨rfl, g3⟩
        have HB : Hid (w3.heap[w.heap.size]? = some (.cells #[.int .u8 0, .int .i64 0, .int .u8 0, .int .u8 0, .int .u8 0, .int .u8 0, .slice none 0 0] 50 (0, 0))) := by refine g3.kept.heap (by omega) ?_; exact (by repeat (first | (with_reducible exact HB.out) | (with_reducible exact heap_alloc_new _ _) | (with_reducible refine heap_old ?_) | (with_reducible refine heap_drew ?_) | ((with_reducible refine heap_other ?_ ?_); rotate_left; focus (first | (simp; done) | (simp; omega) | omega))))
        have GG := Lib.hid (Goes.trans (w := w) (E := E) (s := .ok p) (d := d) (by repeat (first | (with_reducible exact GG.out) | (with_reducible refine Goes.alloc ?_ _) | (with_reducible refine Goes.drew ?_) | ((with_reducible refine Goes.store ?_ HE.out ?_ _); rotate_left; focus (first | (simp; done) | (simp; omega) | omega)))) g3)
        have sz3 : w.heap.size < w3.heap.size := heap_lt HB.out
        clear g3
        go_wp2_with fail
        refine (sel_any E _ d _ (Goes.rd (w := w) (by repeat (first | (with_reducible exact GG.out) | (with_reducible refine Goes.alloc ?_ _) | (with_reducible refine Goes.drew ?_) | ((with_reducible refine Goes.store ?_ HE.out ?_ _); rotate_left; focus (first | (simp; done) | (simp; omega) | omega)))))).mono ?_
        rintro e w4 ⟨x4, s4, rfl, r4, g4⟩
        have hB : w4.heap[w.heap.size]? = some (.cells #[.int .u8 0, .int .i64 0, .int .u8 0, .int .u8 0, .int .u8 0, .int .u8 0, .slice none 0 0] 50 (0, 0)) := by refine g4.kept.heap (by omega) ?_; exact (by repeat (first | (with_reducible exact HB.out) | (with_reducible exact heap_alloc_new _ _) | (with_reducible refine heap_old ?_) | (with_reducible refine heap_drew ?_) | ((with_reducible refine heap_other ?_ ?_); rotate_left; focus (first | (simp; done) | (simp; omega) | omega))))
        have e0 := cell_blk (i := 0) hB
        have e1 := cell_blk (i := 1) hB
        have e2 := cell_blk (i := 2) hB
        have e3 := cell_blk (i := 3) hB
        have e4 := cell_blk (i := 4) hB
        have e5 := cell_blk (i := 5) hB
        have e6 := cell_blk (i := 6) hB
        have ef0 := free_blk (i := 0) hB
        have ef1 := free_blk (i := 1) hB
        have ef2 := free_blk (i := 2) hB
        have ef3 := free_blk (i := 3) hB
        have ef4 := free_blk (i := 4) hB
        have ef5 := free_blk (i := 5) hB
        have ef6 := free_blk (i := 6) hB
        simp at e0 e1 e2 e3 e4 e5 e6
        have GG := Lib.hid (Goes.trans (w := w) (E := E) (s := .ok (p + 1)) (d := d) (by repeat (first | (with_reducible exact GG.out) | (with_reducible refine Goes.alloc ?_ _) | (with_reducible refine Goes.drew ?_) | ((with_reducible refine Goes.store ?_ HE.out ?_ _); rotate_left; focus (first | (simp; done) | (simp; omega) | omega)))) g4)
        have HR := Lib.hid r4
        clear r4 g4 hB
        go_wp2
        refine bodyPost_ret (v := .agg #[.int .u8 2, .int .i64 0, .int .u8 0, .int .u8 x4.side, .int .u8 x4.zone, .int .u8 x4.kind, .slice none 0 0]) (by simp [results, Tryz.results28, go_sem, e0, e1, e2, e3, e4, e5, e6]) rfl ?_
        exact ⟨.mk 2 0 0 x4 [], _, _, _, s4, rfl, ExAt.at_leaf _ _ _ _ _ _ _, res_expr hpe.out (Res.map (s := .ok (p + 1)) (fun s => Ex.mk 2 0 0 s []) HR.out), (by repeat (first | (with_reducible exact GG.out) | (with_reducible refine Goes.alloc ?_ _) | (with_reducible refine Goes.drew ?_) | ((with_reducible refine Goes.store ?_ HE.out ?_ _); rotate_left; focus (first | (simp; done) | (simp; omega) | omega))))⟩
      · rcases sees_or h ⟨#[112, 111, 119, 101, 114]⟩ (by decide) with ⟨p, rfl, hp, ht⟩ | ht4
        · have hpe : Hid (∀ q, RS.ok p = .ok q → pExpr E.ts k q = (fun q => .ok (.mk 3 0 0 .zero [], q + 1)) q) := fun q hq => by cases hq; rw [pExpr_at, pExprBy, if_neg (show ¬ (tk E.ts p).text = ⟨#[40]⟩ from ht1), if_neg (show ¬ (tk E.ts p).text = ⟨#[108, 105, 102, 101]⟩ from ht2), if_neg (show ¬ (tk E.ts p).text = ⟨#[99, 111, 117, 110, 116]⟩ from ht3), if_pos ht]
          have hsn : Hid (∀ W, Rd W E (.ok p) d → _) := fun W hW => skip_no E (.ok p) d W ⟨#[108, 105, 102, 101]⟩ hW ht2
          have hsn2 : Hid (∀ W, Rd W E (.ok p) d → _) := fun W hW => skip_no E (.ok p) d W ⟨#[99, 111, 117, 110, 116]⟩ hW ht3
          have hsk : Hid (∀ W, Rd W E (.ok p) d → _) := fun W hW => skip_yes E p d W ⟨#[112, 111, 119, 101, 114]⟩ hW hp ht
          clear h hp ht ht1 ht2 ht3
          go_enter Tryz.func28, Tryz.ntmps28
          go_wp2_with fail
          refine (HX.out _ (Goes.rd (w := w) (by repeat (first | (with_reducible exact GG.out) | (with_reducible refine Goes.alloc ?_ _) | (with_reducible refine Goes.drew ?_) | ((with_reducible refine Goes.store ?_ HE.out ?_ _); rotate_left; focus (first | (simp; done) | (simp; omega) | omega)))))).mono ?_
          rintro e w1 ⟨rfl, b1⟩
          have HB : Hid (w1.heap[w.heap.size]? = some (.cells #[.int .u8 0, .int .i64 0, .int .u8 0, .int .u8 0, .int .u8 0, .int .u8 0, .slice none 0 0] 50 (0, 0))) := by refine (b1.block _ (by simp)).trans ?_; exact (by repeat (first | (with_reducible exact HB.out) | (with_reducible exact heap_alloc_new _ _) | (with_reducible refine heap_old ?_) | (with_reducible refine heap_drew ?_) | ((with_reducible refine heap_other ?_ ?_); rotate_left; focus (first | (simp; done) | (simp; omega) | omega))))
          have GG := Lib.hid (Goes.below (w := w) (E := E) (s := .ok p) (d := d) (by repeat (first | (with_reducible exact GG.out) | (with_reducible refine Goes.alloc ?_ _) | (with_reducible refine Goes.drew ?_) | ((with_reducible refine Goes.store ?_ HE.out ?_ _); rotate_left; focus (first | (simp; done) | (simp; omega) | omega)))) b1)
          have sz1 : w.heap.size < w1.heap.size := heap_lt HB.out
          generalize E.tok (.ok p) = t at *
          obtain ⟨kd, tx, l, c⟩ := t
          simp only [] at hne
          have hf1 := tokf1 kd tx l c
          clear b1
          go_wp2_with fail
          refine (hsn.out _ (Goes.rd (w := w) (by repeat (first | (with_reducible exact GG.out) | (with_reducible refine Goes.alloc ?_ _) | (with_reducible refine Goes.drew ?_) | ((with_reducible refine Goes.store ?_ HE.out ?_ _); rotate_left; focus (first | (simp; done) | (simp; omega) | omega)))))).mono ?_
          rintro e w2 ⟨rfl, b2⟩
          have HB : Hid (w2.heap[w.heap.size]? = some (.cells #[.int .u8 0, .int .i64 0, .int .u8 0, .int .u8 0, .int .u8 0, .int .u8 0, .slice none 0 0] 50 (0, 0))) := by refine (b2.block _ (by omega)).trans ?_; exact (by repeat (first | (with_reducible exact HB.out) | (with_reducible exact heap_alloc_new _ _) | (with_reducible refine heap_old ?_) | (with_reducible refine heap_drew ?_) | ((with_reducible refine heap_other ?_ ?_); rotate_left; focus (first | (simp; done) | (simp; omega) | omega))))
          have GG := Lib.hid (Goes.below (w := w) (E := E) (s := .ok p) (d := d) (by repeat (first | (with_reducible exact GG.out) | (with_reducible refine Goes.alloc ?_ _) | (with_reducible refine Goes.drew ?_) | ((with_reducible refine Goes.store ?_ HE.out ?_ _); rotate_left; focus (first | (simp; done) | (simp; omega) | omega)))) b2)
          have sz2 : w.heap.size < w2.heap.size := heap_lt HB.out
          clear b2
          go_wp2_with fail
          refine (hsn2.out _ (Goes.rd (w := w) (by repeat (first | (with_reducible exact GG.out) | (with_reducible refine Goes.alloc ?_ _) | (with_reducible refine Goes.drew ?_) | ((with_reducible refine Goes.store ?_ HE.out ?_ _); rotate_left; focus (first | (simp; done) | (simp; omega) | omega)))))).mono ?_
          rintro e w3 ⟨rfl, b3⟩
          have HB : Hid (w3.heap[w.heap.size]? = some (.cells #[.int .u8 0, .int .i64 0, .int .u8 0, .int .u8 0, .int .u8 0, .int .u8 0, .slice none 0 0] 50 (0, 0))) := by refine (b3.block _ (by omega)).trans ?_; exact (by repeat (first | (with_reducible exact HB.out) | (with_reducible exact heap_alloc_new _ _) | (with_reducible refine heap_old ?_) | (with_reducible refine heap_drew ?_) | ((with_reducible refine heap_other ?_ ?_); rotate_left; focus (first | (simp; done) | (simp; omega) | omega))))
          have GG := Lib.hid (Goes.below (w := w) (E := E) (s := .ok p) (d := d) (by repeat (first | (with_reducible exact GG.out) | (with_reducible refine Goes.alloc ?_ _) | (with_reducible refine Goes.drew ?_) | ((with_reducible refine Goes.store ?_ HE.out ?_ _); rotate_left; focus (first | (simp; done) | (simp; omega) | omega)))) b3)
          have sz3 : w.heap.size < w3.heap.size := heap_lt HB.out
          clear b3
          go_wp2_with fail
          refine (hsk.out _ (Goes.rd (w := w) (by repeat (first | (with_reducible exact GG.out) | (with_reducible refine Goes.alloc ?_ _) | (with_reducible refine Goes.drew ?_) | ((with_reducible refine Goes.store ?_ HE.out ?_ _); rotate_left; focus (first | (simp; done) | (simp; omega) | omega)))))).mono ?_
          rintro e w4 ⟨rfl, g4⟩
          have hB : w4.heap[w.heap.size]? = some (.cells #[.int .u8 0, .int .i64 0, .int .u8 0, .int .u8 0, .int .u8 0, .int .u8 0, .slice none 0 0] 50 (0, 0)) := by refine g4.kept.heap (by omega) ?_; exact (by repeat (first | (with_reducible exact HB.out) | (with_reducible exact heap_alloc_new _ _) | (with_reducible refine heap_old ?_) | (with_reducible refine heap_drew ?_) | ((with_reducible refine heap_other ?_ ?_); rotate_left; focus (first | (simp; done) | (simp; omega) | omega))))
          have e0 := cell_blk (i := 0) hB
          have e1 := cell_blk (i := 1) hB
          have e2 := cell_blk (i := 2) hB
          have e3 := cell_blk (i := 3) hB
          have e4 := cell_blk (i := 4) hB
          have e5 := cell_blk (i := 5) hB
          have e6 := cell_blk (i := 6) hB
          have ef0 := free_blk (i := 0) hB
          have ef1 := free_blk (i := 1) hB
          have ef2 := free_blk (i := 2) hB
          have ef3 := free_blk (i := 3) hB
          have ef4 := free_blk (i := 4) hB
          have ef5 := free_blk (i := 5) hB
          have ef6 := free_blk (i := 6) hB
          simp at e0 e1 e2 e3 e4 e5 e6
          have GG := Lib.hid (Goes.trans (w := w) (E := E) (s := .ok p) (d := d) (by repeat (first | (with_reducible exact GG.out) | (with_reducible refine Goes.alloc ?_ _) | (with_reducible refine Goes.drew ?_) | ((with_reducible refine Goes.store ?_ HE.out ?_ _); rotate_left; focus (first | (simp; done) | (simp; omega) | omega)))) g4)
          clear g4 hB
          go_wp2
          refine bodyPost_ret (v := .agg #[.int .u8 3, .int .i64 0, .int .u8 0, .int .u8 0, .int .u8 0, .int .u8 0, .slice none 0 0]) (by simp [results, Tryz.results28, go_sem, e0, e1, e2, e3, e4, e5, e6]) rfl ?_
          exact ⟨.mk 3 0 0 .zero [], _, _, _, .ok (p + 1), rfl, ExAt.at_leaf _ _ _ _ _ _ _, res_expr hpe.out (Res.of_ok rfl), (by repeat (first | (with_reducible exact GG.out) | (with_reducible refine Goes.alloc ?_ _) | (with_reducible refine Goes.drew ?_) | ((with_reducible refine Goes.store ?_ HE.out ?_ _); rotate_left; focus (first | (simp; done) | (simp; omega) | omega))))⟩
        · have hpe : Hid (∀ q, s = .ok q → pExpr E.ts k q = (pNum E.ts).map (fun n => Ex.mk 0 n 0 .zero []) q) := fun q hq => by
            subst hq; rw [pExpr_at, pExprBy, if_neg (show ¬ (tk E.ts q).text = ⟨#[40]⟩ from ht1), if_neg (show ¬ (tk E.ts q).text = ⟨#[108, 105, 102, 101]⟩ from ht2), if_neg (show ¬ (tk E.ts q).text = ⟨#[99, 111, 117, 110, 116]⟩ from ht3), if_neg (show ¬ (tk E.ts q).text = ⟨#[112, 111, 119, 101, 114]⟩ from ht4)]
          have hsn : Hid (∀ W, Rd W E s d → _) := fun W hW => skip_no E s d W ⟨#[108, 105, 102, 101]⟩ hW ht2
          have hsn2 : Hid (∀ W, Rd W E s d → _) := fun W hW => skip_no E s d W ⟨#[99, 111, 117, 110, 116]⟩ hW ht3
          have hsn3 : Hid (∀ W, Rd W E s d → _) := fun W hW => skip_no E s d W ⟨#[112, 111, 119, 101, 114]⟩ hW ht4
          clear h ht1 ht2 ht3 ht4
          go_enter Tryz.func28, Tryz.ntmps28
          go_wp2_with fail
          refine (HX.out _ (Goes.rd (w := w) (by repeat (first | (with_reducible exact GG.out) | (with_reducible refine Goes.alloc ?_ _) | (with_reducible refine Goes.drew ?_) | ((with_reducible refine Goes.store ?_ HE.out ?_ _); rotate_left; focus (first | (simp; done) | (simp; omega) | omega)))))).mono ?_
          rintro e w1 ⟨rfl, b1⟩
          have HB : Hid (w1.heap[w.heap.size]? = some (.cells #[.int .u8 0, .int .i64 0, .int .u8 0, .int .u8 0, .int .u8 0, .int .u8 0, .slice none 0 0] 50 (0, 0))) := by refine (b1.block _ (by simp)).trans ?_; exact (by repeat (first | (with_reducible exact HB.out) | (with_reducible exact heap_alloc_new _ _) | (with_reducible refine heap_old ?_) | (with_reducible refine heap_drew ?_) | ((with_reducible refine heap_other ?_ ?_); rotate_left; focus (first | (simp; done) | (simp; omega) | omega))))
          have GG := Lib.hid (Goes.below (w := w) (E := E) (s := s) (d := d) (by repeat (first | (with_reducible exact GG.out) | (with_reducible refine Goes.alloc ?_ _) | (with_reducible refine Goes.drew ?_) | ((with_reducible refine Goes.store ?_ HE.out ?_ _); rotate_left; focus (first | (simp; done) | (simp; omega) | omega)))) b1)
          have sz1 : w.heap.size < w1.heap.size := heap_lt HB.out
          generalize E.tok s = t at *
          obtain ⟨kd, tx, l, c⟩ := t
          simp only [] at hne
          have hf1 := tokf1 kd tx l c
          clear b1
          go_wp2_with fail
          refine (hsn.out _ (Goes.rd (w := w) (by repeat (first | (with_reducible exact GG.out) | (with_reducible refine Goes.alloc ?_ _) | (with_reducible refine Goes.drew ?_) | ((with_reducible refine Goes.store ?_ HE.out ?_ _); rotate_left; focus (first | (simp; done) | (simp; omega) | omega)))))).mono ?_
          rintro e w2 ⟨rfl, b2⟩
          have HB : Hid (w2.heap[w.heap.size]? = some (.cells #[.int .u8 0, .int .i64 0, .int .u8 0, .int .u8 0, .int .u8 0, .int .u8 0, .slice none 0 0] 50 (0, 0))) := by refine (b2.block _ (by omega)).trans ?_; exact (by repeat (first | (with_reducible exact HB.out) | (with_reducible exact heap_alloc_new _ _) | (with_reducible refine heap_old ?_) | (with_reducible refine heap_drew ?_) | ((with_reducible refine heap_other ?_ ?_); rotate_left; focus (first | (simp; done) | (simp; omega) | omega))))
          have GG := Lib.hid (Goes.below (w := w) (E := E) (s := s) (d := d) (by repeat (first | (with_reducible exact GG.out) | (with_reducible refine Goes.alloc ?_ _) | (with_reducible refine Goes.drew ?_) | ((with_reducible refine Goes.store ?_ HE.out ?_ _); rotate_left; focus (first | (simp; done) | (simp; omega) | omega)))) b2)
          have sz2 : w.heap.size < w2.heap.size := heap_lt HB.out
          clear b2
          go_wp2_with fail
          refine (hsn2.out _ (Goes.rd (w := w) (by repeat (first | (with_reducible exact GG.out) | (with_reducible refine Goes.alloc ?_ _) | (with_reducible refine Goes.drew ?_) | ((with_reducible refine Goes.store ?_ HE.out ?_ _); rotate_left; focus (first | (simp; done) | (simp; omega) | omega)))))).mono ?_
          rintro e w3 ⟨rfl, b3⟩
          have HB : Hid (w3.heap[w.heap.size]? = some (.cells #[.int .u8 0, .int .i64 0, .int .u8 0, .int .u8 0, .int .u8 0, .int .u8 0, .slice none 0 0] 50 (0, 0))) := by refine (b3.block _ (by omega)).trans ?_; exact (by repeat (first | (with_reducible exact HB.out) | (with_reducible exact heap_alloc_new _ _) | (with_reducible refine heap_old ?_) | (with_reducible refine heap_drew ?_) | ((with_reducible refine heap_other ?_ ?_); rotate_left; focus (first | (simp; done) | (simp; omega) | omega))))
          have GG := Lib.hid (Goes.below (w := w) (E := E) (s := s) (d := d) (by repeat (first | (with_reducible exact GG.out) | (with_reducible refine Goes.alloc ?_ _) | (with_reducible refine Goes.drew ?_) | ((with_reducible refine Goes.store ?_ HE.out ?_ _); rotate_left; focus (first | (simp; done) | (simp; omega) | omega)))) b3)
          have sz3 : w.heap.size < w3.heap.size := heap_lt HB.out
          clear b3
          go_wp2_with fail
          refine (hsn3.out _ (Goes.rd (w := w) (by repeat (first | (with_reducible exact GG.out) | (with_reducible refine Goes.alloc ?_ _) | (with_reducible refine Goes.drew ?_) | ((with_reducible refine Goes.store ?_ HE.out ?_ _); rotate_left; focus (first | (simp; done) | (simp; omega) | omega)))))).mono ?_
          rintro e w4 ⟨rfl, b4⟩
          have HB : Hid (w4.heap[w.heap.size]? = some (.cells #[.int .u8 0, .int .i64 0, .int .u8 0, .int .u8 0, .int .u8 0, .int .u8 0, .slice none 0 0] 50 (0, 0))) := by refine (b4.block _ (by omega)).trans ?_; exact (by repeat (first | (with_reducible exact HB.out) | (with_reducible exact heap_alloc_new _ _) | (with_reducible refine heap_old ?_) | (with_reducible refine heap_drew ?_) | ((with_reducible refine heap_other ?_ ?_); rotate_left; focus (first | (simp; done) | (simp; omega) | omega))))
          have GG := Lib.hid (Goes.below (w := w) (E := E) (s := s) (d := d) (by repeat (first | (with_reducible exact GG.out) | (with_reducible refine Goes.alloc ?_ _) | (with_reducible refine Goes.drew ?_) | ((with_reducible refine Goes.store ?_ HE.out ?_ _); rotate_left; focus (first | (simp; done) | (simp; omega) | omega)))) b4)
          have sz4 : w.heap.size < w4.heap.size := heap_lt HB.out
          clear b4
          go_wp2_with fail
          refine (number_any E s d _ (Goes.rd (w := w) (by repeat (first | (with_reducible exact GG.out) | (with_reducible refine Goes.alloc ?_ _) | (with_reducible refine Goes.drew ?_) | ((with_reducible refine Goes.store ?_ HE.out ?_ _); rotate_left; focus (first | (simp; done) | (simp; omega) | omega)))))).mono ?_
          rintro e w5 ⟨v5, s5, rfl, r5, g5⟩
          have hB : w5.heap[w.heap.size]? = some (.cells #[.int .u8 0, .int .i64 0, .int .u8 0, .int .u8 0, .int .u8 0, .int .u8 0, .slice none 0 0] 50 (0, 0)) := by refine g5.kept.heap (by omega) ?_; exact (by repeat (first | (with_reducible exact HB.out) | (with_reducible exact heap_alloc_new _ _) | (with_reducible refine heap_old ?_) | (with_reducible refine heap_drew ?_) | ((with_reducible refine heap_other ?_ ?_); rotate_left; focus (first | (simp; done) | (simp; omega) | omega))))
          have e0 := cell_blk (i := 0) hB
          have e1 := cell_blk (i := 1) hB
          have e2 := cell_blk (i := 2) hB
          have e3 := cell_blk (i := 3) hB
          have e4 := cell_blk (i := 4) hB
          have e5 := cell_blk (i := 5) hB
          have e6 := cell_blk (i := 6) hB
          have ef0 := free_blk (i := 0) hB
          have ef1 := free_blk (i := 1) hB
          have ef2 := free_blk (i := 2) hB
          have ef3 := free_blk (i := 3) hB
          have ef4 := free_blk (i := 4) hB
          have ef5 := free_blk (i := 5) hB
          have ef6 := free_blk (i := 6) hB
          simp at e0 e1 e2 e3 e4 e5 e6
          have GG := Lib.hid (Goes.trans (w := w) (E := E) (s := s) (d := d) (by repeat (first | (with_reducible exact GG.out) | (with_reducible refine Goes.alloc ?_ _) | (with_reducible refine Goes.drew ?_) | ((with_reducible refine Goes.store ?_ HE.out ?_ _); rotate_left; focus (first | (simp; done) | (simp; omega) | omega)))) g5)
          have HR := Lib.hid r5
          clear r5 g5 hB
          go_wp2
          refine bodyPost_ret (v := .agg #[.int .u8 0, .int .i64 v5, .int .u8 0, .int .u8 0, .int .u8 0, .int .u8 0, .slice none 0 0]) (by simp [results, Tryz.results28, go_sem, e0, e1, e2, e3, e4, e5, e6]) rfl ?_
          exact ⟨.mk 0 v5 0 .zero [], _, _, _, s5, rfl, ExAt.at_leaf _ _ _ _ _ _ _, res_expr hpe.out (Res.map _ HR.out), (by repeat (first | (with_reducible exact GG.out) | (with_reducible refine Goes.alloc ?_ _) | (with_reducible refine Goes.drew ?_) | ((with_reducible refine Goes.store ?_ HE.out ?_ _); rotate_left; focus (first | (simp; done) | (simp; omega) | omega))))⟩
end Go.Proofs.YtaffgdgdojdoiaaGreatDoor
