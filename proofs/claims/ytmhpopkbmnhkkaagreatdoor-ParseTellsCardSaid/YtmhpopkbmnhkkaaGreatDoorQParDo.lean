import Derived.Test.YtmhpopkbmnhkkaaGreatDoorQParStep
import Derived.Test.YtmhpopkbmnhkkaaGreatDoorQParA
/- Layer 2 (parse): how each step is read behind its word. -/
namespace Go.Proofs.YtmhpopkbmnhkkaaGreatDoor
open Go.RowKit Go.Lib

theorem cell_far {w : World} {a p : Addr} {u v : Value} (h : w.cell? p = some v) (hne : p.block ≠ a.block) : (w.setCell a u).cell? p = some v := by
  rw [World.cell?_of_block (w := w) (heap_set_far hne u)]; exact h
def amountP (ts : List Tok) (d : Nat) : Par St := (pOne ts sidesW).bind fun a => (pExpr ts 5).map fun x => ⟨d, a, x, false, .zero⟩

set_option maxHeartbeats 2000000 in
set_option maxRecDepth 100000 in
theorem negate_any (E : Env) (s : RS) (w : World) (h : Rd w E s 0) :
    Calls Tryz.prog 112 #[.pointer (some ⟨E.R, 0, none⟩)] w (StEnds (Par.pure ⟨10, 0, .zero, false, .zero⟩) E s w) := by
  have HE := Lib.hid h.both
  have GG := Lib.hid (Goes.start h)
  clear h
  go_enter Tryz.func112, Tryz.ntmps112
  go_wp2
  refine bodyPost_ret (v := .agg #[.int .u8 10, .int .u8 0, .int .u8 0, .int .i64 0, .int .u8 0, .int .u8 0, .int .u8 0, .int .u8 0, .slice none 0 0, .bool false, .int .u8 0, .int .u8 0, .int .u8 0]) (by simp [results, Tryz.results112, go_sem]) rfl ?_
  exact ⟨⟨10, 0, .zero, false, .zero⟩, none, 0, 0, s, rfl, ExAt.at_leaf _ _ _ _ _ _ _, Res.pure _ _, (by repeat (first | (with_reducible exact GG.out) | (with_reducible refine Goes.alloc ?_ _) | (with_reducible refine Goes.drew ?_) | ((with_reducible refine Goes.store ?_ HE.out ?_ _); rotate_left; focus (first | (simp; done) | (simp; omega) | omega))))⟩

set_option maxHeartbeats 2000000 in
set_option maxRecDepth 100000 in
theorem boost_any (E : Env) (s : RS) (w : World) (h : Rd w E s 0) :
    Calls Tryz.prog 111 #[.pointer (some ⟨E.R, 0, none⟩)] w (StEnds ((pExpr E.ts 5).bind fun x => pOf E.ts ⟨7, 0, x, false, .zero⟩) E s w) := by
  have HE := Lib.hid h.both
  have GG := Lib.hid (Goes.start h)
  have hlt := h.lt
  clear h
  go_enter Tryz.func111, Tryz.ntmps111
  go_wp2_with fail
  refine (expr_five E s _ (Goes.rd (w := w) (by repeat (first | (with_reducible exact GG.out) | (with_reducible refine Goes.alloc ?_ _) | (with_reducible refine Goes.drew ?_) | ((with_reducible refine Goes.store ?_ HE.out ?_ _); rotate_left; focus (first | (simp; done) | (simp; omega) | omega)))))).mono ?_
  rintro e w1 ⟨x, va, vn, vc, s1, rfl, hx, r1, g1⟩
  have HB : Hid (w1.heap[w.heap.size]? = some (.cells #[.int .u8 0, .int .u8 0, .int .u8 0, .int .i64 0, .int .u8 0, .int .u8 0, .int .u8 0, .int .u8 0, .slice none 0 0, .bool false, .int .u8 0, .int .u8 0, .int .u8 0] 58 (0, 0))) := by refine g1.kept.heap (by omega) ?_; exact (by repeat (first | (with_reducible exact HB.out) | (with_reducible exact heap_alloc_new _ _) | (with_reducible refine heap_old ?_) | (with_reducible refine heap_drew ?_) | ((with_reducible refine heap_other ?_ ?_); rotate_left; focus (first | (simp; done) | (simp; omega) | omega))))
  have GG := Lib.hid (Goes.trans (w := w) (E := E) (s := s) (d := 0) (by repeat (first | (with_reducible exact GG.out) | (with_reducible refine Goes.alloc ?_ _) | (with_reducible refine Goes.drew ?_) | ((with_reducible refine Goes.store ?_ HE.out ?_ _); rotate_left; focus (first | (simp; done) | (simp; omega) | omega)))) g1)
  have sz1 : w.heap.size < w1.heap.size := heap_lt HB.out
  have hXs : w.heap.size + 1 ≤ w1.heap.size := sz1
  have HR := Lib.hid (And.intro hx r1)
  clear hx r1 g1
  go_wp2_with fail
  refine (of_any E s1 _ ⟨7, 0, x, false, .zero⟩ va vn vc ⟨rfl, rfl⟩ (Goes.rd (w := w) (by repeat (first | (with_reducible exact GG.out) | (with_reducible refine Goes.alloc ?_ _) | (with_reducible refine Goes.drew ?_) | ((with_reducible refine Goes.store ?_ HE.out ?_ _); rotate_left; focus (first | (simp; done) | (simp; omega) | omega)))))).mono ?_
  rintro e w2 ⟨b, sl, s2, rfl, r2, g2⟩
  have hB : w2.heap[w.heap.size]? = some (.cells #[.int .u8 0, .int .u8 0, .int .u8 0, .int .i64 0, .int .u8 0, .int .u8 0, .int .u8 0, .int .u8 0, .slice none 0 0, .bool false, .int .u8 0, .int .u8 0, .int .u8 0] 58 (0, 0)) := by refine g2.kept.heap (by omega) ?_; exact (by repeat (first | (with_reducible exact HB.out) | (with_reducible exact heap_alloc_new _ _) | (with_reducible refine heap_old ?_) | (with_reducible refine heap_drew ?_) | ((with_reducible refine heap_other ?_ ?_); rotate_left; focus (first | (simp; done) | (simp; omega) | omega))))
  have e0 := cell_blk (i := 0) hB
  have e1 := cell_blk (i := 1) hB
  have e2 := cell_blk (i := 2) hB
  have e3 := cell_blk (i := 3) hB
  have e4 := cell_blk (i := 4) hB
  have e5 := cell_blk (i := 5) hB
  have e6 := cell_blk (i := 6) hB
  have e7 := cell_blk (i := 7) hB
  have e8 := cell_blk (i := 8) hB
  have e9 := cell_blk (i := 9) hB
  have e10 := cell_blk (i := 10) hB
  have e11 := cell_blk (i := 11) hB
  have e12 := cell_blk (i := 12) hB
  have ef0 := free_blk (i := 0) hB
  have ef1 := free_blk (i := 1) hB
  have ef2 := free_blk (i := 2) hB
  have ef3 := free_blk (i := 3) hB
  have ef4 := free_blk (i := 4) hB
  have ef5 := free_blk (i := 5) hB
  have ef6 := free_blk (i := 6) hB
  have ef7 := free_blk (i := 7) hB
  have ef8 := free_blk (i := 8) hB
  have ef9 := free_blk (i := 9) hB
  have ef10 := free_blk (i := 10) hB
  have ef11 := free_blk (i := 11) hB
  have ef12 := free_blk (i := 12) hB
  simp at e0 e1 e2 e3 e4 e5 e6 e7 e8 e9 e10 e11 e12
  have HX := Lib.hid (frames_above (w' := w2) (B' := w.heap.size + 1) (ExAt.frames 5) HR.out.1 ((Above.refl _ _).kept g2.kept (by simp; omega)) (by simp))
  have GG := Lib.hid (Goes.trans (w := w) (E := E) (s := s1) (d := 0) (by repeat (first | (with_reducible exact GG.out) | (with_reducible refine Goes.alloc ?_ _) | (with_reducible refine Goes.drew ?_) | ((with_reducible refine Goes.store ?_ HE.out ?_ _); rotate_left; focus (first | (simp; done) | (simp; omega) | omega)))) g2)
  have R2 := Lib.hid r2
  clear r2 g2 hB
  go_wp2
  refine bodyPost_ret (v := .agg #[.int .u8 7, .int .u8 0, .int .u8 (Ex.op x), .int .i64 (Ex.n x), .int .u8 (Ex.side x), .int .u8 (Ex.sel x).side, .int .u8 (Ex.sel x).zone, .int .u8 (Ex.sel x).kind, .slice va vn vc, .bool b, .int .u8 (Sl.side sl), .int .u8 (Sl.zone sl), .int .u8 (Sl.kind sl)]) (by simp [results, Tryz.results111, go_sem, e0, e1, e2, e3, e4, e5, e6, e7, e8, e9, e10, e11, e12]) rfl ?_
  exact ⟨⟨7, 0, x, b, sl⟩, va, vn, vc, s2, rfl, frames_above (w := w2) (B := w.heap.size + 1) (ExAt.frames 5) HX.out (by repeat (first | (with_reducible exact Above.refl _ _) | (with_reducible refine Above.alloc ?_ _) | (with_reducible refine Above.drew ?_) | ((with_reducible refine Above.setCell ?_ ?_ _); rotate_left; focus (first | (simp; done) | (simp; omega) | omega)))) (by omega), Res.bind HR.out.2 R2.out, (by repeat (first | (with_reducible exact GG.out) | (with_reducible refine Goes.alloc ?_ _) | (with_reducible refine Goes.drew ?_) | ((with_reducible refine Goes.store ?_ HE.out ?_ _); rotate_left; focus (first | (simp; done) | (simp; omega) | omega))))⟩

set_option maxHeartbeats 2000000 in
set_option maxRecDepth 100000 in
theorem pieces_any (E : Env) (s : RS) (w : World) (a dof : Nat) (hA : w.heap[a]? = some (.cells #[.int .u8 dof] 5 (0, 0))) (h : Rd w E s 0) :
    Calls Tryz.prog 153 #[.pointer (some ⟨E.R, 0, none⟩), .pointer (some ⟨a, 0, none⟩)] w (StEnds (pOf E.ts ⟨dof, 0, .zero, false, .zero⟩) E s w) := by
  have HE := Lib.hid h.both
  have GG := Lib.hid (Goes.start h)
  have hlt := h.lt
  have ha := heap_lt hA
  have ca : w.cell? ⟨a, 0, none⟩ = some (.int .u8 dof) := by rw [cell_blk hA]; rfl
  clear h hA
  go_enter Tryz.func153, Tryz.ntmps153
  go_wp2_with fail
  refine (of_any E s _ ⟨dof, 0, .zero, false, .zero⟩ none 0 0 ⟨rfl, rfl⟩ (Goes.rd (w := w) (by repeat (first | (with_reducible exact GG.out) | (with_reducible refine Goes.alloc ?_ _) | (with_reducible refine Goes.drew ?_) | ((with_reducible refine Goes.store ?_ HE.out ?_ _); rotate_left; focus (first | (simp; done) | (simp; omega) | omega)))))).mono ?_
  rintro e w2 ⟨b, sl, s2, rfl, r2, g2⟩
  have hB : w2.heap[w.heap.size]? = some (.cells #[.int .u8 0, .int .u8 0, .int .u8 0, .int .i64 0, .int .u8 0, .int .u8 0, .int .u8 0, .int .u8 0, .slice none 0 0, .bool false, .int .u8 0, .int .u8 0, .int .u8 0] 58 (0, 0)) := by refine g2.kept.heap (by omega) ?_; exact (by repeat (first | (with_reducible exact HB.out) | (with_reducible exact heap_alloc_new _ _) | (with_reducible refine heap_old ?_) | (with_reducible refine heap_drew ?_) | ((with_reducible refine heap_other ?_ ?_); rotate_left; focus (first | (simp; done) | (simp; omega) | omega))))
  have e0 := cell_blk (i := 0) hB
  have e1 := cell_blk (i := 1) hB
  have e2 := cell_blk (i := 2) hB
  have e3 := cell_blk (i := 3) hB
  have e4 := cell_blk (i := 4) hB
  have e5 := cell_blk (i := 5) hB
  have e6 := cell_blk (i := 6) hB
  have e7 := cell_blk (i := 7) hB
  have e8 := cell_blk (i := 8) hB
  have e9 := cell_blk (i := 9) hB
  have e10 := cell_blk (i := 10) hB
  have e11 := cell_blk (i := 11) hB
  have e12 := cell_blk (i := 12) hB
  have ef0 := free_blk (i := 0) hB
  have ef1 := free_blk (i := 1) hB
  have ef2 := free_blk (i := 2) hB
  have ef3 := free_blk (i := 3) hB
  have ef4 := free_blk (i := 4) hB
  have ef5 := free_blk (i := 5) hB
  have ef6 := free_blk (i := 6) hB
  have ef7 := free_blk (i := 7) hB
  have ef8 := free_blk (i := 8) hB
  have ef9 := free_blk (i := 9) hB
  have ef10 := free_blk (i := 10) hB
  have ef11 := free_blk (i := 11) hB
  have ef12 := free_blk (i := 12) hB
  simp at e0 e1 e2 e3 e4 e5 e6 e7 e8 e9 e10 e11 e12
  have GG := Lib.hid (Goes.trans (w := w) (E := E) (s := s) (d := 0) (by repeat (first | (with_reducible exact GG.out) | (with_reducible refine Goes.alloc ?_ _) | (with_reducible refine Goes.drew ?_) | ((with_reducible refine Goes.store ?_ HE.out ?_ _); rotate_left; focus (first | (simp; done) | (simp; omega) | omega)))) g2)
  have R2 := Lib.hid r2
  clear r2 g2 hB
  go_wp2
  refine bodyPost_ret (v := .agg #[.int .u8 dof, .int .u8 0, .int .u8 (Ex.op .zero), .int .i64 (Ex.n .zero), .int .u8 (Ex.side .zero), .int .u8 (Ex.sel .zero).side, .int .u8 (Ex.sel .zero).zone, .int .u8 (Ex.sel .zero).kind, .slice none 0 0, .bool b, .int .u8 sl.side, .int .u8 sl.zone, .int .u8 sl.kind]) (by simp [results, Tryz.results153, go_sem, e0, e1, e2, e3, e4, e5, e6, e7, e8, e9, e10, e11, e12]) rfl ?_
  exact ⟨⟨dof, 0, .zero, b, sl⟩, none, 0, 0, s2, rfl, ExAt.at_leaf _ _ _ _ _ _ _, R2.out, (by repeat (first | (with_reducible exact GG.out) | (with_reducible refine Goes.alloc ?_ _) | (with_reducible refine Goes.drew ?_) | ((with_reducible refine Goes.store ?_ HE.out ?_ _); rotate_left; focus (first | (simp; done) | (simp; omega) | omega))))⟩

set_option maxHeartbeats 2000000 in
set_option maxRecDepth 100000 in
theorem amount_any (E : Env) (s : RS) (w : World) (a dof : Nat) (hA : w.heap[a]? = some (.cells #[.int .u8 dof] 5 (0, 0))) (haR : a ≠ E.R) (h : Rd w E s 0) :
    Calls Tryz.prog 152 #[.pointer (some ⟨E.R, 0, none⟩), .pointer (some ⟨a, 0, none⟩)] w (StEnds (amountP E.ts dof) E s w) := by
  have HE := Lib.hid h.both
  have GG := Lib.hid (Goes.start h)
  have hlt := h.lt
  have ha := heap_lt hA
  have HA := Lib.hid hA
  clear h hA
  go_enter Tryz.func152, Tryz.ntmps152
  go_wp2_with fail
  refine (side_any E s 0 _ (Goes.rd (w := w) (by repeat (first | (with_reducible exact GG.out) | (with_reducible refine Goes.alloc ?_ _) | (with_reducible refine Goes.drew ?_) | ((with_reducible refine Goes.store ?_ HE.out ?_ _); rotate_left; focus (first | (simp; done) | (simp; omega) | omega)))))).mono ?_
  rintro e w1 ⟨k1, s1, rfl, r1, l1, g1⟩
  have HB : Hid (w1.heap[w.heap.size]? = some (.cells #[.int .u8 0, .int .u8 0, .int .u8 0, .int .i64 0, .int .u8 0, .int .u8 0, .int .u8 0, .int .u8 0, .slice none 0 0, .bool false, .int .u8 0, .int .u8 0, .int .u8 0] 58 (0, 0))) := by refine g1.kept.heap (by omega) ?_; exact (by repeat (first | (with_reducible exact HB.out) | (with_reducible exact heap_alloc_new _ _) | (with_reducible refine heap_old ?_) | (with_reducible refine heap_drew ?_) | ((with_reducible refine heap_other ?_ ?_); rotate_left; focus (first | (simp; done) | (simp; omega) | omega))))
  have HA : Hid (w1.heap[a]? = some (.cells #[.int .u8 dof] 5 (0, 0))) := g1.kept.heap haR (heap_old HA.out)
  have ca : w1.cell? ⟨a, 0, none⟩ = some (.int .u8 dof) := by rw [cell_blk HA.out]; rfl
  have GG := Lib.hid (Goes.trans (w := w) (E := E) (s := s) (d := 0) (by repeat (first | (with_reducible exact GG.out) | (with_reducible refine Goes.alloc ?_ _) | (with_reducible refine Goes.drew ?_) | ((with_reducible refine Goes.store ?_ HE.out ?_ _); rotate_left; focus (first | (simp; done) | (simp; omega) | omega)))) g1)
  have sz1 : w.heap.size < w1.heap.size := heap_lt HB.out
  have hab : a ≠ w.heap.size := by omega
  have R1 := Lib.hid r1
  clear r1 l1 g1
  go_wp2_with fail
  go_region_held3 (fun w' => w'.cell? ⟨a, 0, none⟩ = some (.int .u8 dof))
    (first | go_keep | (with_reducible exact cA2) | ((repeat (first | (with_reducible exact cA2) | ((with_reducible refine cell_far ?_ ?_); rotate_left; focus (simp; omega)))); done))
    (first
      | (go_at_call 42; refine (expr_five E s1 _ (Goes.rd (w := w) (by repeat (first | (with_reducible exact GG.out) | (with_reducible refine Goes.alloc ?_ _) | (with_reducible refine Goes.drew ?_) | ((with_reducible refine Goes.store ?_ HE.out ?_ _); rotate_left; focus (first | (simp; done) | (simp; omega) | omega)))))).mono ?_; rintro e w2 ⟨x, va, vn, vc, s2, rfl, hx, r2, g2⟩;
         have hB : w2.heap[w.heap.size]? = some (.cells #[.int .u8 0, .int .u8 0, .int .u8 0, .int .i64 0, .int .u8 0, .int .u8 0, .int .u8 0, .int .u8 0, .slice none 0 0, .bool false, .int .u8 0, .int .u8 0, .int .u8 0] 58 (0, 0)) := (by refine g2.kept.heap (by omega) ?_; exact (by repeat (first | (with_reducible exact HB.out) | (with_reducible exact heap_alloc_new _ _) | (with_reducible refine heap_old ?_) | (with_reducible refine heap_drew ?_) | ((with_reducible refine heap_other ?_ ?_); rotate_left; focus (first | (simp; done) | (simp; omega) | omega)))));
         have hA2 : w2.heap[a]? = some (.cells #[.int .u8 dof] 5 (0, 0)) := g2.kept.heap haR HA.out;
         have cA2 : w2.cell? ⟨a, 0, none⟩ = some (.int .u8 dof) := (by rw [cell_blk hA2]; rfl);
         have GG2 := Lib.hid (Goes.trans (w := w) (E := E) (s := s1) (d := 0) (by repeat (first | (with_reducible exact GG.out) | (with_reducible refine Goes.alloc ?_ _) | (with_reducible refine Goes.drew ?_) | ((with_reducible refine Goes.store ?_ HE.out ?_ _); rotate_left; focus (first | (simp; done) | (simp; omega) | omega)))) g2);
         have HR := Lib.hid (And.intro hx r2); have hsz2 := heap_lt hB; have hz1 := g2.kept.size;
         have e0 := cell_blk (i := 0) hB; have e1 := cell_blk (i := 1) hB; have e2 := cell_blk (i := 2) hB; have e3 := cell_blk (i := 3) hB; have e4 := cell_blk (i := 4) hB; have e5 := cell_blk (i := 5) hB; have e6 := cell_blk (i := 6) hB; have e7 := cell_blk (i := 7) hB; have e8 := cell_blk (i := 8) hB; have e9 := cell_blk (i := 9) hB; have e10 := cell_blk (i := 10) hB; have e11 := cell_blk (i := 11) hB; have e12 := cell_blk (i := 12) hB; have ef0 := free_blk (i := 0) hB; have ef1 := free_blk (i := 1) hB; have ef2 := free_blk (i := 2) hB; have ef3 := free_blk (i := 3) hB; have ef4 := free_blk (i := 4) hB; have ef5 := free_blk (i := 5) hB; have ef6 := free_blk (i := 6) hB; have ef7 := free_blk (i := 7) hB; have ef8 := free_blk (i := 8) hB; have ef9 := free_blk (i := 9) hB; have ef10 := free_blk (i := 10) hB; have ef11 := free_blk (i := 11) hB; have ef12 := free_blk (i := 12) hB; simp at e0 e1 e2 e3 e4 e5 e6 e7 e8 e9 e10 e11 e12))
  have GG := GG2
  go_wp2
  refine bodyPost_ret (v := .agg #[.int .u8 dof, .int .u8 k1, .int .u8 (Ex.op x), .int .i64 (Ex.n x), .int .u8 (Ex.side x), .int .u8 (Ex.sel x).side, .int .u8 (Ex.sel x).zone, .int .u8 (Ex.sel x).kind, .slice va vn vc, .bool false, .int .u8 0, .int .u8 0, .int .u8 0]) (by simp [results, Tryz.results152, go_sem, e0, e1, e2, e3, e4, e5, e6, e7, e8, e9, e10, e11, e12]) rfl ?_
  exact ⟨⟨dof, k1, x, false, .zero⟩, va, vn, vc, s2, rfl, frames_above (w := w2) (B := w1.heap.size) (ExAt.frames 5) HR.out.1 (by repeat (first | (with_reducible exact Above.refl _ _) | (with_reducible refine Above.alloc ?_ _) | (with_reducible refine Above.drew ?_) | ((with_reducible refine Above.setCell ?_ ?_ _); rotate_left; focus (first | (simp; done) | (simp; omega) | omega)))) (by omega), Res.bind R1.out (Res.map _ HR.out.2), (by repeat (first | (with_reducible exact GG.out) | (with_reducible refine Goes.alloc ?_ _) | (with_reducible refine Goes.drew ?_) | ((with_reducible refine Goes.store ?_ HE.out ?_ _); rotate_left; focus (first | (simp; done) | (simp; omega) | omega))))⟩
end Go.Proofs.YtmhpopkbmnhkkaaGreatDoor
