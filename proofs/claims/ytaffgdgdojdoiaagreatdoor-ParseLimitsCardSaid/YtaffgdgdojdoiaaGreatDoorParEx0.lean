/- Layer 2 (parse): expressions: what every depth shares. -/
import Derived.Test.YtaffgdgdojdoiaaGreatDoorParSel
namespace Go.Proofs.YtaffgdgdojdoiaaGreatDoor
open Go.RowKit Go.Lib

theorem str_ne_l {a : ByteArray} {l : List UInt8} (h : a ≠ ⟨l.toArray⟩) : (a.toList == l) = false := by
  rw [beq_eq_false_iff_ne, ByteArray.toList_eq]
  intro e
  exact h (ByteArray.ext (by rw [← e]))
theorem str_eq_l {a : ByteArray} {l : List UInt8} (h : a = ⟨l.toArray⟩) : (a.toList == l) = true := by
  subst h
  rw [beq_iff_eq, ByteArray.toList_eq]
theorem Tryz.exprInfo : (Tryz.prog.info? 50).map (fun i => (i.zero, i.size, i.bytes)) = some (some (.agg #[.int .u8 0, .int .i64 0, .int .u8 0, .int .u8 0, .int .u8 0, .int .u8 0, .slice none 0 0]), 7, 48) := by kernel_rfl
theorem Tryz.stepInfo : (Tryz.prog.info? 52).map (fun i => (i.zero, i.size, i.bytes)) = some (some (.agg #[.int .u8 0, .int .u8 0, .int .u8 0, .int .i64 0, .int .u8 0, .int .u8 0, .int .u8 0, .int .u8 0, .slice none 0 0, .bool false, .int .u8 0, .int .u8 0, .int .u8 0]), 13, 64) := by kernel_rfl
theorem Tryz.effectInfo : (Tryz.prog.info? 43).map (fun i => (i.zero, i.size, i.bytes)) = some (some (.agg #[.int .u8 0, .int .u8 0, .int .u8 0, .slice none 0 0, .int .i64 0, .int .i64 0, .bool false, .int .i64 0, .int .u8 0, .int .u8 0, .int .u8 0, .slice none 0 0]), 12, 96) := by kernel_rfl
theorem Tryz.cardInfo : (Tryz.prog.info? 38).map (fun i => (i.zero, i.size, i.bytes)) = some (some (.agg #[.string ⟨#[]⟩, .int .u8 0, .int .i64 0, .int .i64 0, .int .i64 0, .slice none 0 0]), 6, 72) := by kernel_rfl

def pNestAt (ts : List Tok) : Nat → Par Ex
  | 0 => pFail ts 3
  | k + 1 => pNest ts (pExpr ts k)
theorem pExpr_by (ts : List Tok) (k : Nat) : pExpr ts k = pExprBy ts (pNestAt ts k) := by cases k <;> rfl

/-- An expression is handed back, so deep at most. -/
def ExEnds (p : Par Ex) (E : Env) (s : RS) (d : Int) (k : Nat) (w : World) (e : Ending) (w' : World) : Prop := ∃ (x : Ex) (va : Option Addr) (vn vc : Nat) (s' : RS),
  e = .returned (.agg #[.int .u8 x.op, .int .i64 x.n, .int .u8 x.side, .int .u8 x.sel.side, .int .u8 x.sel.zone, .int .u8 x.sel.kind, .slice va vn vc]) ∧ ExAt k w' (From w.heap.size) (exV x (.slice va vn vc)) x ∧ Res p s x s' ∧ Goes w E s' d w'
def ExprSaid (k : Nat) : Prop := ∀ (E : Env) (s : RS) (d : Int) (w : World), 0 ≤ d ∧ d + k = 5 → Rd w E s d → Calls Tryz.prog 28 #[.pointer (some ⟨E.R, 0, none⟩)] w (ExEnds (pExpr E.ts k) E s d k w)
def NestedSaid (k : Nat) : Prop := ∀ (E : Env) (s : RS) (d : Int) (w : World), 0 ≤ d ∧ d + k = 5 → Rd w E s d → Calls Tryz.prog 55 #[.pointer (some ⟨E.R, 0, none⟩)] w (ExEnds (pNestAt E.ts k) E s d k w)

theorem ExAt.at_leaf (k : Nat) (w : World) (S : Nat → Prop) (o : Nat) (n : Int) (sd : Nat) (x : Sl) : ExAt k w S (exV (.mk o n sd x []) (.slice none 0 0)) (.mk o n sd x []) := ExAt.leaf _ _ _ _ rfl

set_option maxHeartbeats 1000000 in
set_option maxRecDepth 100000 in
theorem nested_zero : NestedSaid 0 := by
  intro E s d w hd h
  have hd5 : d = 5 := by omega
  obtain ⟨-, -, c2, -, -, -⟩ := h.cells
  have HE := Lib.hid h.both
  have GG := Lib.hid (Goes.start h)
  have hlt := h.lt
  subst hd5
  clear h hd
  go_enter Tryz.func55, Tryz.ntmps55
  go_wp2_with fail
  refine (fail_any E s 5 _ 3 (by decide) (Goes.rd (w := w) (by repeat (first | (with_reducible exact GG.out) | (with_reducible refine Goes.alloc ?_ _) | (with_reducible refine Goes.drew ?_) | ((with_reducible refine Goes.store ?_ HE.out ?_ _); rotate_left; focus (first | (simp; done) | (simp; omega) | omega)))))).mono ?_
  rintro e w1 ⟨rfl, g1⟩
  have hB : w1.heap[w.heap.size]? = some (.cells #[.int .u8 0, .int .i64 0, .int .u8 0, .int .u8 0, .int .u8 0, .int .u8 0, .slice none 0 0] 50 (0, 0)) := by refine g1.kept.heap (by omega) ?_; exact (by repeat (first | (with_reducible exact HB.out) | (with_reducible exact heap_alloc_new _ _) | (with_reducible refine heap_old ?_) | (with_reducible refine heap_drew ?_) | ((with_reducible refine heap_other ?_ ?_); rotate_left; focus (first | (simp; done) | (simp; omega) | omega))))
  have GG := Lib.hid (Goes.trans (w := w) (E := E) (s := s) (d := 5) (by repeat (first | (with_reducible exact GG.out) | (with_reducible refine Goes.alloc ?_ _) | (with_reducible refine Goes.drew ?_) | ((with_reducible refine Goes.store ?_ HE.out ?_ _); rotate_left; focus (first | (simp; done) | (simp; omega) | omega)))) g1)
  have HB := Lib.hid hB
  have e0 := cell_blk (i := 0) hB
  have e1 := cell_blk (i := 1) hB
  have e2 := cell_blk (i := 2) hB
  have e3 := cell_blk (i := 3) hB
  have e4 := cell_blk (i := 4) hB
  have e5 := cell_blk (i := 5) hB
  have e6 := cell_blk (i := 6) hB
  have ef0 := free_blk (i := 0) hB
  have ef1 := free_blk (i := 1) hB
  have ef2 := free_blk (i := 2) hB
  have ef3 := free_blk (i := 3) hB
  have ef4 := free_blk (i := 4) hB
  have ef5 := free_blk (i := 5) hB
  have ef6 := free_blk (i := 6) hB
  simp at e0 e1 e2 e3 e4 e5 e6
  clear g1 hB
  go_wp2
  refine bodyPost_ret (v := .agg #[.int .u8 0, .int .i64 0, .int .u8 0, .int .u8 0, .int .u8 0, .int .u8 0, .slice none 0 0]) (by simp [results, Tryz.results55, go_sem, e0, e1, e2, e3, e4, e5, e6]) rfl ?_
  exact ⟨.zero, _, _, _, s.fails E 3, rfl, ExAt.at_leaf _ _ _ _ _ _ _, Res.fails E 3 s _, (by repeat (first | (with_reducible exact GG.out) | (with_reducible refine Goes.alloc ?_ _) | (with_reducible refine Goes.drew ?_) | ((with_reducible refine Goes.store ?_ HE.out ?_ _); rotate_left; focus (first | (simp; done) | (simp; omega) | omega))))⟩
end Go.Proofs.YtaffgdgdojdoiaaGreatDoor
