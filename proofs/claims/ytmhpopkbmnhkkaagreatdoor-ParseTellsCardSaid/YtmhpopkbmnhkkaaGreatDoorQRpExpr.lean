import Derived.Test.YtmhpopkbmnhkkaaGreatDoorQRpB
import Derived.Test.YtmhpopkbmnhkkaaGreatDoorQParEx2
import Derived.IntWalk
/- joustref02: an expression. -/
namespace Go.Proofs.YtmhpopkbmnhkkaaGreatDoor
open Go.RowKit Go.Lib

def RExEnds (p : Par Ex) (E : REnv) (s : RS) (k : Nat) (w : World) (e : Ending) (w' : World) : Prop := ∃ (x : Ex) (va : Option Addr) (vn vc : Nat) (s' : RS),
  e = .returned (.agg #[.int .u8 x.op, .int .i64 x.n, .int .u8 x.side, .int .u8 x.sel.side, .int .u8 x.sel.zone, .int .u8 x.sel.kind, .slice va vn vc]) ∧ ExAt k w' (From w.heap.size) (exV x (.slice va vn vc)) x ∧ Res p s x s' ∧ RGoes w E s' w'
def RExprSaid (k : Nat) : Prop := ∀ (E : REnv) (s : RS) (deep : Int) (w : World), 0 ≤ deep ∧ deep + k = 5 → RR w E s → Calls Tryz.prog 44 #[.pointer (some ⟨E.R, 0, none⟩), .int .i64 deep] w (RExEnds (pExpr E.ts k) E s k w)

/-- What an expression is by its first token. -/
theorem expr_num {E : REnv} {w : World} {p k : Nat} (h : RR w E (.ok p)) (hk : (tk E.ts p).kind = 2) : pExpr E.ts k p = (pNum E.ts).map (fun n => Ex.mk 0 n 0 .zero []) p := by
  have hwt := h.env.wf.all _ (tk_mem (show p < E.ts.length from h.fits))
  have hn : ∀ tx, wordy tx = true → (tk E.ts p).text ≠ tx := fun tx hw ht => (wordy_tok hwt hw ht).2 hk
  rw [pExpr_at, pExprBy, if_neg (hn ⟨#[40]⟩ (by rfl)), if_neg (hn ⟨#[108, 105, 102, 101]⟩ (by rfl)), if_neg (hn ⟨#[99, 111, 117, 110, 116]⟩ (by rfl)), if_neg (hn ⟨#[112, 111, 119, 101, 114]⟩ (by rfl))]
theorem expr_life {ts : List Tok} {p k : Nat} (h : (tk ts p).text = ⟨#[108, 105, 102, 101]⟩) : pExpr ts k p = (pOne ts sidesW).map (fun s => Ex.mk 1 0 s .zero []) (p + 1) := by
  rw [pExpr_at, pExprBy, if_neg (by rw [h]; decide), if_pos h]
theorem expr_count {ts : List Tok} {p k : Nat} (h : (tk ts p).text = ⟨#[99, 111, 117, 110, 116]⟩) : pExpr ts k p = (pSel ts).map (fun s => Ex.mk 2 0 0 s []) (p + 1) := by
  rw [pExpr_at, pExprBy, if_neg (by rw [h]; decide), if_neg (by rw [h]; decide), if_pos h]
theorem expr_power {ts : List Tok} {p k : Nat} (h : (tk ts p).text = ⟨#[112, 111, 119, 101, 114]⟩) : pExpr ts k p = .ok (.mk 3 0 0 .zero [], p + 1) := by
  rw [pExpr_at, pExprBy, if_neg (by rw [h]; decide), if_neg (by rw [h]; decide), if_neg (by rw [h]; decide), if_pos h]
theorem expr_open {ts : List Tok} {p k : Nat} (h : (tk ts p).text = ⟨#[40]⟩) : pExpr ts k p = pNestAt ts k p := by
  rw [pExpr_at, pExprBy, if_pos h]
theorem expr_none {ts : List Tok} {p k : Nat} (h0 : (tk ts p).kind ≠ 2) (h1 : (tk ts p).text ≠ ⟨#[40]⟩) (h2 : (tk ts p).text ≠ ⟨#[108, 105, 102, 101]⟩) (h3 : (tk ts p).text ≠ ⟨#[99, 111, 117, 110, 116]⟩) (h4 : (tk ts p).text ≠ ⟨#[112, 111, 119, 101, 114]⟩) : pExpr ts k p = pFail ts 5 p := by
  rw [pExpr_at, pExprBy, if_neg h1, if_neg h2, if_neg h3, if_neg h4]
  unfold Par.map Par.bind pNum
  rw [if_neg h0]
  rfl

def RNest (E : REnv) (k : Nat) (w : World) (X q n : Nat) (p : List Ex → RS → Prop) (wx : World) : Prop := ∃ (xs : List Ex) (s3 : RS) (g cap : Nat), p xs s3 ∧ xs.length = n ∧ RGoes w E s3 wx ∧ wx.heap[w.heap.size]? = some (.cells #[.int .u8 0, .int .i64 0, .int .u8 0, .int .u8 0, .int .u8 0, .int .u8 0, .slice none 0 0] 46 (0, 0)) ∧
  wx.heap[X]? = some (.cells #[.int .u8 q, .int .i64 0, .int .u8 0, .int .u8 0, .int .u8 0, .int .u8 0, .slice (some ⟨g, 0, none⟩) n cap] 46 (0, 0)) ∧ RowAt wx (From (X + 1)) 46 7 (ExAt k) (.slice (some ⟨g, 0, none⟩) n cap) xs

theorem rnest_step {E : REnv} {s2 s3 : RS} {k X q g cap b : Nat} {w Wb w5 w6 : World} {v : Value} {xs : List Ex} {css : List (List Value)} {x1 : Ex} {va : Option Addr} {vn vc : Nat} (HE : REnvAt w E ∧ E.R < w.heap.size) (hBX : w.heap.size < X)
    (gW : RGoes w E s2 Wb) (g3 : RGoes Wb E s3 w5) (hB : Wb.heap[w.heap.size]? = some (.cells #[.int .u8 0, .int .i64 0, .int .u8 0, .int .u8 0, .int .u8 0, .int .u8 0, .slice none 0 0] 46 (0, 0))) (hX : Wb.heap[X]? = some (.cells #[.int .u8 q, .int .i64 0, .int .u8 0, .int .u8 0, .int .u8 0, .int .u8 0, v] 46 (0, 0)))
    (hrow : RowOf Wb (From (X + 1)) 46 7 (ExAt k) v xs css) (hx1 : ExAt k w5 (From Wb.heap.size) (exV x1 (.slice va vn vc)) x1)
    (hown : w6.ownsRow b 46 7 (.slice (some ⟨g, 0, none⟩) (xs.length + 1) cap) (xs.length + 1) (css.flatten ++ exV x1 (.slice va vn vc)))
    (hgr : (w5.alloc (.cells (exV x1 (.slice va vn vc)).toArray 46)).grownBy w6 v.ownBlock) (hat : v.ownBlock = some g ∨ g = (w5.alloc (.cells (exV x1 (.slice va vn vc)).toArray 46)).heap.size) :
    RGoes w E s3 (w6.setCell ⟨X, 6, none⟩ (.slice (some ⟨g, 0, none⟩) (xs.length + 1) cap)) ∧ (w6.setCell ⟨X, 6, none⟩ (.slice (some ⟨g, 0, none⟩) (xs.length + 1) cap)).heap[w.heap.size]? = some (.cells #[.int .u8 0, .int .i64 0, .int .u8 0, .int .u8 0, .int .u8 0, .int .u8 0, .slice none 0 0] 46 (0, 0)) ∧
    (w6.setCell ⟨X, 6, none⟩ (.slice (some ⟨g, 0, none⟩) (xs.length + 1) cap)).heap[X]? = some (.cells #[.int .u8 q, .int .i64 0, .int .u8 0, .int .u8 0, .int .u8 0, .int .u8 0, .slice (some ⟨g, 0, none⟩) (xs.length + 1) cap] 46 (0, 0)) ∧
    RowAt (w6.setCell ⟨X, 6, none⟩ (.slice (some ⟨g, 0, none⟩) (xs.length + 1) cap)) (From (X + 1)) 46 7 (ExAt k) (.slice (some ⟨g, 0, none⟩) (xs.length + 1) cap) (xs ++ [x1]) := by
  have hR : E.R < w.heap.size := HE.2
  have hbk : ∀ i, v.ownBlock = some i → X + 1 ≤ i := fun i hi => hrow.blk i hi
  have g5 := (gW.trans g3).alloc (.cells (exV x1 (.slice va vn vc)).toArray 46)
  have g6 := g5.grown HE hgr (fun i hi => by have := hbk i hi; omega)
  have hB5 := g3.kept.heap (by omega) hB
  have hX5 := g3.kept.heap (by omega) hX
  have hB6 := (hgr.block w.heap.size (by have := heap_lt hB5; simp; omega) (fun e => by have := hbk _ e.symm; omega)).trans (heap_old hB5)
  have hX6 := (hgr.block X (by have := heap_lt hX5; simp; omega) (fun e => by have := hbk _ e.symm; omega)).trans (heap_old hX5)
  exact ⟨g6.store HE (by simp; omega) _, heap_other hB6 (by simp; omega), heap_set_to hX6 rfl, _, ex_more (by omega) (heap_lt hX) hrow g3.kept hx1 hown hgr (hat.imp id fun e => by rw [e]; simp)⟩


set_option maxHeartbeats 4000000 in
set_option maxRecDepth 100000 in
theorem rexpr_of (k : Nat) (hk5 : k ≤ 5) (hin : ∀ j, k = j + 1 → RExprSaid j) : RExprSaid k := by
  intro E s deep w hd h
  have HI := Lib.hid hin
  have HE := Lib.hid h.both
  have GG := Lib.hid (RGoes.start h)
  have hlt := h.lt
  have HD := Lib.hid hd
  have hd0 : 0 ≤ deep := hd.1
  have hd6 : deep ≤ 5 := by omega
  obtain ⟨i0, hi0, hz0, hz1, hz2⟩ := info_parts Tryz.exprInfo
  have hnum : Hid ((E.tok s).kind = 2 → ∃ p, s = .ok p ∧ pExpr E.ts k p = (pNum E.ts).map (fun n => Ex.mk 0 n 0 .zero []) p) := fun hk => by
    cases s with
    | bad x l c => exact absurd hk (by simp [REnv.tok])
    | ok p => exact ⟨p, rfl, expr_num h hk⟩
  have HX := Lib.hid h
  clear h hd hin
  go_enter Tryz.func44, Tryz.ntmps44
  go_wp2_with fail
  refine (rnext_any E s _ (RGoes.rd (w := w) (by repeat (first | (with_reducible exact GG.out) | (with_reducible refine RGoes.alloc ?_ _) | (with_reducible refine RGoes.drew ?_) | ((with_reducible refine RGoes.store ?_ HE.out ?_ _); rotate_left; focus (first | (simp; done) | (simp; omega) | omega)))))).mono ?_
  rintro e w1 ⟨rfl, b1⟩
  have HB : Hid (w1.heap[w.heap.size]? = some (.cells #[.int .u8 0, .int .i64 0, .int .u8 0, .int .u8 0, .int .u8 0, .int .u8 0, .slice none 0 0] 46 (0, 0))) := by refine (b1.block _ (by simp)).trans ?_; exact (by repeat (first | (with_reducible exact HB.out) | (with_reducible exact heap_alloc_new _ _) | (with_reducible refine heap_old ?_) | (with_reducible refine heap_drew ?_) | ((with_reducible refine heap_other ?_ ?_); rotate_left; focus (first | (simp; done) | (simp; omega) | omega))))
  replace GG := Lib.hid (RGoes.below (w := w) (E := E) (s := s) (by repeat (first | (with_reducible exact GG.out) | (with_reducible refine RGoes.alloc ?_ _) | (with_reducible refine RGoes.drew ?_) | ((with_reducible refine RGoes.store ?_ HE.out ?_ _); rotate_left; focus (first | (simp; done) | (simp; omega) | omega)))) b1)
  have sz1 : w.heap.size < w1.heap.size := heap_lt HB.out
  clear b1
  by_cases hk : (E.tok s).kind = 2
  · obtain ⟨p, rfl, hpe⟩ := hnum.out hk
    have HPE := Lib.hid hpe
    generalize E.tok (.ok p) = t at *
    obtain ⟨kd, tx, l, c⟩ := t
    simp only [] at hk
    subst hk
    have hf0 : ∀ w : World, (Instr.field 103 (.agg #[.int .u8 2, .string tx, .int .i64 l, .int .i64 c]) 0).run Tryz.prog w = .ok (.int .u8 2) w := fun _ => by kernel_rfl
    clear hpe hnum
    go_wp2_with fail
    refine (rnum_any E _ _ (RGoes.rd (w := w) (by repeat (first | (with_reducible exact GG.out) | (with_reducible refine RGoes.alloc ?_ _) | (with_reducible refine RGoes.drew ?_) | ((with_reducible refine RGoes.store ?_ HE.out ?_ _); rotate_left; focus (first | (simp; done) | (simp; omega) | omega)))))).mono ?_
    rintro e w2 ⟨v, s2, rfl, r2, g2⟩
    have hB : w2.heap[w.heap.size]? = some (.cells #[.int .u8 0, .int .i64 0, .int .u8 0, .int .u8 0, .int .u8 0, .int .u8 0, .slice none 0 0] 46 (0, 0)) := by refine g2.kept.heap (by omega) ?_; exact (by repeat (first | (with_reducible exact HB.out) | (with_reducible exact heap_alloc_new _ _) | (with_reducible refine heap_old ?_) | (with_reducible refine heap_drew ?_) | ((with_reducible refine heap_other ?_ ?_); rotate_left; focus (first | (simp; done) | (simp; omega) | omega))))
    have e0 := cell_blk (i := 0) hB
    have e1 := cell_blk (i := 1) hB
    have e2 := cell_blk (i := 2) hB
    have e3 := cell_blk (i := 3) hB
    have e4 := cell_blk (i := 4) hB
    have e5 := cell_blk (i := 5) hB
    have e6 := cell_blk (i := 6) hB
    have ef0 := free_blk (i := 0) hB
    have ef1 := free_blk (i := 1) hB
    have ef2 := free_blk (i := 2) hB
    have ef3 := free_blk (i := 3) hB
    have ef4 := free_blk (i := 4) hB
    have ef5 := free_blk (i := 5) hB
    have ef6 := free_blk (i := 6) hB
    simp at e0 e1 e2 e3 e4 e5 e6
    replace GG := Lib.hid (RGoes.trans (w := w) (E := E) (s := .ok p) (by repeat (first | (with_reducible exact GG.out) | (with_reducible refine RGoes.alloc ?_ _) | (with_reducible refine RGoes.drew ?_) | ((with_reducible refine RGoes.store ?_ HE.out ?_ _); rotate_left; focus (first | (simp; done) | (simp; omega) | omega)))) g2)
    have HR := Lib.hid r2
    clear r2 g2 hB
    go_wp2
    refine bodyPost_ret (v := .agg #[.int .u8 0, .int .i64 v, .int .u8 0, .int .u8 0, .int .u8 0, .int .u8 0, .slice none 0 0]) (by simp [results, Tryz.results44, go_sem, e0, e1, e2, e3, e4, e5, e6]) rfl ?_
    exact ⟨.mk 0 v 0 .zero [], _, _, _, s2, rfl, ExAt.at_leaf _ _ _ _ _ _ _, res_expr (fun q hq => by cases hq; exact HPE.out) (Res.map (s := .ok p) (fun n => Ex.mk 0 n 0 .zero []) HR.out), (by repeat (first | (with_reducible exact GG.out) | (with_reducible refine RGoes.alloc ?_ _) | (with_reducible refine RGoes.drew ?_) | ((with_reducible refine RGoes.store ?_ HE.out ?_ _); rotate_left; focus (first | (simp; done) | (simp; omega) | omega))))⟩
  have HK := Lib.hid hk
  have hf0 : ∀ w : World, (Instr.field 103 (.agg #[.int .u8 (E.tok s).kind, .string (E.tok s).text, .int .i64 (E.tok s).spot.1, .int .i64 (E.tok s).spot.2]) 0).run Tryz.prog w = .ok (.int .u8 (E.tok s).kind) w := tokf0 _ _ _ _
  have hk2 : (((E.tok s).kind : Int) == 2) = false := by simp; omega
  clear hk hnum
  cases hl : sees E s ⟨#[108, 105, 102, 101]⟩ with
  | true =>
    go_wp2_with fail
    refine (rmay_any E s _ _ true (by rfl) hl (RGoes.rd (w := w) (by repeat (first | (with_reducible exact GG.out) | (with_reducible refine RGoes.alloc ?_ _) | (with_reducible refine RGoes.drew ?_) | ((with_reducible refine RGoes.store ?_ HE.out ?_ _); rotate_left; focus (first | (simp; done) | (simp; omega) | omega)))))).mono ?_
    rintro e w2 ⟨rfl, g2⟩
    obtain ⟨p, rfl, ht⟩ := sees_yes hl
    have HT := Lib.hid ht
    replace HB : Hid (w2.heap[w.heap.size]? = some (.cells #[.int .u8 0, .int .i64 0, .int .u8 0, .int .u8 0, .int .u8 0, .int .u8 0, .slice none 0 0] 46 (0, 0))) := by refine g2.kept.heap (by omega) ?_; exact (by repeat (first | (with_reducible exact HB.out) | (with_reducible exact heap_alloc_new _ _) | (with_reducible refine heap_old ?_) | (with_reducible refine heap_drew ?_) | ((with_reducible refine heap_other ?_ ?_); rotate_left; focus (first | (simp; done) | (simp; omega) | omega))))
    replace GG : Hid (RGoes w E (.ok (p + 1)) w2) := Lib.hid (RGoes.trans (w := w) (E := E) (s := .ok p) (by repeat (first | (with_reducible exact GG.out) | (with_reducible refine RGoes.alloc ?_ _) | (with_reducible refine RGoes.drew ?_) | ((with_reducible refine RGoes.store ?_ HE.out ?_ _); rotate_left; focus (first | (simp; done) | (simp; omega) | omega)))) g2)
    have sz2 : w.heap.size < w2.heap.size := heap_lt HB.out
    clear g2 ht hl
    go_wp2_with fail
    refine (rSides_any E.R _ (by omega)).mono ?_
    rintro e w3 ⟨v3, rfl, hv3, b3⟩
    have HV := Lib.hid hv3
    obtain ⟨va, vn, vc, rfl⟩ := hv3.form
    replace HB : Hid (w3.heap[w.heap.size]? = some (.cells #[.int .u8 0, .int .i64 0, .int .u8 0, .int .u8 0, .int .u8 0, .int .u8 0, .slice none 0 0] 46 (0, 0))) := (b3.block _ (by omega)).trans HB.out
    replace GG := Lib.hid (RGoes.below (w := w) (E := E) (s := .ok (p + 1)) (by repeat (first | (with_reducible exact GG.out) | (with_reducible refine RGoes.alloc ?_ _) | (with_reducible refine RGoes.drew ?_) | ((with_reducible refine RGoes.store ?_ HE.out ?_ _); rotate_left; focus (first | (simp; done) | (simp; omega) | omega)))) b3)
    have sz3 : w.heap.size < w3.heap.size := heap_lt HB.out
    clear b3 hv3
    go_wp2_with fail
    refine (rone_any E _ _ _ sidesW wdy_sides HV.out (RGoes.rd (w := w) (by repeat (first | (with_reducible exact GG.out) | (with_reducible refine RGoes.alloc ?_ _) | (with_reducible refine RGoes.drew ?_) | ((with_reducible refine RGoes.store ?_ HE.out ?_ _); rotate_left; focus (first | (simp; done) | (simp; omega) | omega)))))).mono ?_
    rintro e w4 ⟨k4, s4, rfl, r4, l4, g4⟩
    have hB : w4.heap[w.heap.size]? = some (.cells #[.int .u8 0, .int .i64 0, .int .u8 0, .int .u8 0, .int .u8 0, .int .u8 0, .slice none 0 0] 46 (0, 0)) := g4.kept.heap (by omega) HB.out
    have e0 := cell_blk (i := 0) hB
    have e1 := cell_blk (i := 1) hB
    have e2 := cell_blk (i := 2) hB
    have e3 := cell_blk (i := 3) hB
    have e4 := cell_blk (i := 4) hB
    have e5 := cell_blk (i := 5) hB
    have e6 := cell_blk (i := 6) hB
    have ef0 := free_blk (i := 0) hB
    have ef1 := free_blk (i := 1) hB
    have ef2 := free_blk (i := 2) hB
    have ef3 := free_blk (i := 3) hB
    have ef4 := free_blk (i := 4) hB
    have ef5 := free_blk (i := 5) hB
    have ef6 := free_blk (i := 6) hB
    simp at e0 e1 e2 e3 e4 e5 e6
    replace GG := Lib.hid (RGoes.trans (w := w) (E := E) (s := .ok (p + 1)) (by repeat (first | (with_reducible exact GG.out) | (with_reducible refine RGoes.alloc ?_ _) | (with_reducible refine RGoes.drew ?_) | ((with_reducible refine RGoes.store ?_ HE.out ?_ _); rotate_left; focus (first | (simp; done) | (simp; omega) | omega)))) g4)
    have HR := Lib.hid r4
    clear r4 l4 g4 hB
    go_wp2
    refine bodyPost_ret (v := .agg #[.int .u8 1, .int .i64 0, .int .u8 k4, .int .u8 0, .int .u8 0, .int .u8 0, .slice none 0 0]) (by simp [results, Tryz.results44, go_sem, e0, e1, e2, e3, e4, e5, e6]) rfl ?_
    exact ⟨.mk 1 0 k4 .zero [], _, _, _, s4, rfl, ExAt.at_leaf _ _ _ _ _ _ _, res_expr (f := fun q => (pOne E.ts sidesW).map (fun s => Ex.mk 1 0 s .zero []) (q + 1)) (fun q hq => by cases hq; exact expr_life HT.out) (Res.map (s := .ok (p + 1)) (fun s => Ex.mk 1 0 s .zero []) HR.out), (by repeat (first | (with_reducible exact GG.out) | (with_reducible refine RGoes.alloc ?_ _) | (with_reducible refine RGoes.drew ?_) | ((with_reducible refine RGoes.store ?_ HE.out ?_ _); rotate_left; focus (first | (simp; done) | (simp; omega) | omega))))⟩
  | false =>
  go_wp2_with fail
  refine (rmay_any E s _ _ false (by rfl) hl (RGoes.rd (w := w) (by repeat (first | (with_reducible exact GG.out) | (with_reducible refine RGoes.alloc ?_ _) | (with_reducible refine RGoes.drew ?_) | ((with_reducible refine RGoes.store ?_ HE.out ?_ _); rotate_left; focus (first | (simp; done) | (simp; omega) | omega)))))).mono ?_
  rintro e w2 ⟨rfl, g2⟩
  have hss : s.step false = s := by cases s <;> rfl
  rw [hss] at g2
  replace HB : Hid (w2.heap[w.heap.size]? = some (.cells #[.int .u8 0, .int .i64 0, .int .u8 0, .int .u8 0, .int .u8 0, .int .u8 0, .slice none 0 0] 46 (0, 0))) := by refine g2.kept.heap (by omega) ?_; exact (by repeat (first | (with_reducible exact HB.out) | (with_reducible exact heap_alloc_new _ _) | (with_reducible refine heap_old ?_) | (with_reducible refine heap_drew ?_) | ((with_reducible refine heap_other ?_ ?_); rotate_left; focus (first | (simp; done) | (simp; omega) | omega))))
  replace GG := Lib.hid (RGoes.trans (w := w) (E := E) (s := s) (by repeat (first | (with_reducible exact GG.out) | (with_reducible refine RGoes.alloc ?_ _) | (with_reducible refine RGoes.drew ?_) | ((with_reducible refine RGoes.store ?_ HE.out ?_ _); rotate_left; focus (first | (simp; done) | (simp; omega) | omega)))) g2)
  have sz2 : w.heap.size < w2.heap.size := heap_lt HB.out
  have HL := Lib.hid hl
  have HSS := Lib.hid hss
  clear g2 hl hss
  cases hc : sees E s ⟨#[99, 111, 117, 110, 116]⟩ with
  | true =>
    go_wp2_with fail
    refine (rmay_any E s _ _ true (by rfl) hc (RGoes.rd (w := w) (by repeat (first | (with_reducible exact GG.out) | (with_reducible refine RGoes.alloc ?_ _) | (with_reducible refine RGoes.drew ?_) | ((with_reducible refine RGoes.store ?_ HE.out ?_ _); rotate_left; focus (first | (simp; done) | (simp; omega) | omega)))))).mono ?_
    rintro e w3 ⟨rfl, g3⟩
    obtain ⟨p, rfl, ht⟩ := sees_yes hc
    have HT := Lib.hid ht
    replace HB : Hid (w3.heap[w.heap.size]? = some (.cells #[.int .u8 0, .int .i64 0, .int .u8 0, .int .u8 0, .int .u8 0, .int .u8 0, .slice none 0 0] 46 (0, 0))) := by refine g3.kept.heap (by omega) ?_; exact (by repeat (first | (with_reducible exact HB.out) | (with_reducible exact heap_alloc_new _ _) | (with_reducible refine heap_old ?_) | (with_reducible refine heap_drew ?_) | ((with_reducible refine heap_other ?_ ?_); rotate_left; focus (first | (simp; done) | (simp; omega) | omega))))
    replace GG : Hid (RGoes w E (.ok (p + 1)) w3) := Lib.hid (RGoes.trans (w := w) (E := E) (s := .ok p) (by repeat (first | (with_reducible exact GG.out) | (with_reducible refine RGoes.alloc ?_ _) | (with_reducible refine RGoes.drew ?_) | ((with_reducible refine RGoes.store ?_ HE.out ?_ _); rotate_left; focus (first | (simp; done) | (simp; omega) | omega)))) g3)
    have sz3 : w.heap.size < w3.heap.size := heap_lt HB.out
    clear g3 ht hc
    go_wp2_with fail
    refine (rsel_any E _ _ (RGoes.rd (w := w) (by repeat (first | (with_reducible exact GG.out) | (with_reducible refine RGoes.alloc ?_ _) | (with_reducible refine RGoes.drew ?_) | ((with_reducible refine RGoes.store ?_ HE.out ?_ _); rotate_left; focus (first | (simp; done) | (simp; omega) | omega)))))).mono ?_
    rintro e w4 ⟨x4, s4, rfl, r4, g4⟩
    have hB : w4.heap[w.heap.size]? = some (.cells #[.int .u8 0, .int .i64 0, .int .u8 0, .int .u8 0, .int .u8 0, .int .u8 0, .slice none 0 0] 46 (0, 0)) := g4.kept.heap (by omega) HB.out
    have e0 := cell_blk (i := 0) hB
    have e1 := cell_blk (i := 1) hB
    have e2 := cell_blk (i := 2) hB
    have e3 := cell_blk (i := 3) hB
    have e4 := cell_blk (i := 4) hB
    have e5 := cell_blk (i := 5) hB
    have e6 := cell_blk (i := 6) hB
    have ef0 := free_blk (i := 0) hB
    have ef1 := free_blk (i := 1) hB
    have ef2 := free_blk (i := 2) hB
    have ef3 := free_blk (i := 3) hB
    have ef4 := free_blk (i := 4) hB
    have ef5 := free_blk (i := 5) hB
    have ef6 := free_blk (i := 6) hB
    simp at e0 e1 e2 e3 e4 e5 e6
    replace GG := Lib.hid (RGoes.trans (w := w) (E := E) (s := .ok (p + 1)) (by repeat (first | (with_reducible exact GG.out) | (with_reducible refine RGoes.alloc ?_ _) | (with_reducible refine RGoes.drew ?_) | ((with_reducible refine RGoes.store ?_ HE.out ?_ _); rotate_left; focus (first | (simp; done) | (simp; omega) | omega)))) g4)
    have HR := Lib.hid r4
    clear r4 g4 hB
    go_wp2
    refine bodyPost_ret (v := .agg #[.int .u8 2, .int .i64 0, .int .u8 0, .int .u8 x4.side, .int .u8 x4.zone, .int .u8 x4.kind, .slice none 0 0]) (by simp [results, Tryz.results44, go_sem, e0, e1, e2, e3, e4, e5, e6]) rfl ?_
    exact ⟨.mk 2 0 0 x4 [], _, _, _, s4, rfl, ExAt.at_leaf _ _ _ _ _ _ _, res_expr (f := fun q => (pSel E.ts).map (fun s => Ex.mk 2 0 0 s []) (q + 1)) (fun q hq => by cases hq; exact expr_count HT.out) (Res.map (s := .ok (p + 1)) (fun s => Ex.mk 2 0 0 s []) HR.out), (by repeat (first | (with_reducible exact GG.out) | (with_reducible refine RGoes.alloc ?_ _) | (with_reducible refine RGoes.drew ?_) | ((with_reducible refine RGoes.store ?_ HE.out ?_ _); rotate_left; focus (first | (simp; done) | (simp; omega) | omega))))⟩
  | false =>
  go_wp2_with fail
  refine (rmay_any E s _ _ false (by rfl) hc (RGoes.rd (w := w) (by repeat (first | (with_reducible exact GG.out) | (with_reducible refine RGoes.alloc ?_ _) | (with_reducible refine RGoes.drew ?_) | ((with_reducible refine RGoes.store ?_ HE.out ?_ _); rotate_left; focus (first | (simp; done) | (simp; omega) | omega)))))).mono ?_
  rintro e w3 ⟨rfl, g3⟩
  rw [HSS.out] at g3
  replace HB : Hid (w3.heap[w.heap.size]? = some (.cells #[.int .u8 0, .int .i64 0, .int .u8 0, .int .u8 0, .int .u8 0, .int .u8 0, .slice none 0 0] 46 (0, 0))) := by refine g3.kept.heap (by omega) ?_; exact (by repeat (first | (with_reducible exact HB.out) | (with_reducible exact heap_alloc_new _ _) | (with_reducible refine heap_old ?_) | (with_reducible refine heap_drew ?_) | ((with_reducible refine heap_other ?_ ?_); rotate_left; focus (first | (simp; done) | (simp; omega) | omega))))
  replace GG := Lib.hid (RGoes.trans (w := w) (E := E) (s := s) (by repeat (first | (with_reducible exact GG.out) | (with_reducible refine RGoes.alloc ?_ _) | (with_reducible refine RGoes.drew ?_) | ((with_reducible refine RGoes.store ?_ HE.out ?_ _); rotate_left; focus (first | (simp; done) | (simp; omega) | omega)))) g3)
  have sz3 : w.heap.size < w3.heap.size := heap_lt HB.out
  have HC := Lib.hid hc
  clear g3 hc
  cases hp : sees E s ⟨#[112, 111, 119, 101, 114]⟩ with
  | true =>
    go_wp2_with fail
    refine (rmay_any E s _ _ true (by rfl) hp (RGoes.rd (w := w) (by repeat (first | (with_reducible exact GG.out) | (with_reducible refine RGoes.alloc ?_ _) | (with_reducible refine RGoes.drew ?_) | ((with_reducible refine RGoes.store ?_ HE.out ?_ _); rotate_left; focus (first | (simp; done) | (simp; omega) | omega)))))).mono ?_
    rintro e w4 ⟨rfl, g4⟩
    obtain ⟨p, rfl, ht⟩ := sees_yes hp
    have HT := Lib.hid ht
    have hB : w4.heap[w.heap.size]? = some (.cells #[.int .u8 0, .int .i64 0, .int .u8 0, .int .u8 0, .int .u8 0, .int .u8 0, .slice none 0 0] 46 (0, 0)) := by refine g4.kept.heap (by omega) ?_; exact (by repeat (first | (with_reducible exact HB.out) | (with_reducible exact heap_alloc_new _ _) | (with_reducible refine heap_old ?_) | (with_reducible refine heap_drew ?_) | ((with_reducible refine heap_other ?_ ?_); rotate_left; focus (first | (simp; done) | (simp; omega) | omega))))
    replace GG : Hid (RGoes w E (.ok (p + 1)) w4) := Lib.hid (RGoes.trans (w := w) (E := E) (s := .ok p) (by repeat (first | (with_reducible exact GG.out) | (with_reducible refine RGoes.alloc ?_ _) | (with_reducible refine RGoes.drew ?_) | ((with_reducible refine RGoes.store ?_ HE.out ?_ _); rotate_left; focus (first | (simp; done) | (simp; omega) | omega)))) g4)
    have e0 := cell_blk (i := 0) hB
    have e1 := cell_blk (i := 1) hB
    have e2 := cell_blk (i := 2) hB
    have e3 := cell_blk (i := 3) hB
    have e4 := cell_blk (i := 4) hB
    have e5 := cell_blk (i := 5) hB
    have e6 := cell_blk (i := 6) hB
    have ef0 := free_blk (i := 0) hB
    have ef1 := free_blk (i := 1) hB
    have ef2 := free_blk (i := 2) hB
    have ef3 := free_blk (i := 3) hB
    have ef4 := free_blk (i := 4) hB
    have ef5 := free_blk (i := 5) hB
    have ef6 := free_blk (i := 6) hB
    simp at e0 e1 e2 e3 e4 e5 e6
    clear g4 hB hp ht
    go_wp2
    refine bodyPost_ret (v := .agg #[.int .u8 3, .int .i64 0, .int .u8 0, .int .u8 0, .int .u8 0, .int .u8 0, .slice none 0 0]) (by simp [results, Tryz.results44, go_sem, e0, e1, e2, e3, e4, e5, e6]) rfl ?_
    exact ⟨.mk 3 0 0 .zero [], _, _, _, .ok (p + 1), rfl, ExAt.at_leaf _ _ _ _ _ _ _, Res.of_ok (expr_power HT.out), (by repeat (first | (with_reducible exact GG.out) | (with_reducible refine RGoes.alloc ?_ _) | (with_reducible refine RGoes.drew ?_) | ((with_reducible refine RGoes.store ?_ HE.out ?_ _); rotate_left; focus (first | (simp; done) | (simp; omega) | omega))))⟩
  | false =>
  go_wp2_with fail
  refine (rmay_any E s _ _ false (by rfl) hp (RGoes.rd (w := w) (by repeat (first | (with_reducible exact GG.out) | (with_reducible refine RGoes.alloc ?_ _) | (with_reducible refine RGoes.drew ?_) | ((with_reducible refine RGoes.store ?_ HE.out ?_ _); rotate_left; focus (first | (simp; done) | (simp; omega) | omega)))))).mono ?_
  rintro e w4 ⟨rfl, g4⟩
  rw [HSS.out] at g4
  replace HB : Hid (w4.heap[w.heap.size]? = some (.cells #[.int .u8 0, .int .i64 0, .int .u8 0, .int .u8 0, .int .u8 0, .int .u8 0, .slice none 0 0] 46 (0, 0))) := by refine g4.kept.heap (by omega) ?_; exact (by repeat (first | (with_reducible exact HB.out) | (with_reducible exact heap_alloc_new _ _) | (with_reducible refine heap_old ?_) | (with_reducible refine heap_drew ?_) | ((with_reducible refine heap_other ?_ ?_); rotate_left; focus (first | (simp; done) | (simp; omega) | omega))))
  replace GG := Lib.hid (RGoes.trans (w := w) (E := E) (s := s) (by repeat (first | (with_reducible exact GG.out) | (with_reducible refine RGoes.alloc ?_ _) | (with_reducible refine RGoes.drew ?_) | ((with_reducible refine RGoes.store ?_ HE.out ?_ _); rotate_left; focus (first | (simp; done) | (simp; omega) | omega)))) g4)
  have sz4 : w.heap.size < w4.heap.size := heap_lt HB.out
  have HP := Lib.hid hp
  clear g4 hp
  cases ho : sees E s ⟨#[40]⟩ with
  | false =>
    go_wp2_with fail
    refine (ris_any E s _ _ false (by rfl) ho (RGoes.rd (w := w) (by repeat (first | (with_reducible exact GG.out) | (with_reducible refine RGoes.alloc ?_ _) | (with_reducible refine RGoes.drew ?_) | ((with_reducible refine RGoes.store ?_ HE.out ?_ _); rotate_left; focus (first | (simp; done) | (simp; omega) | omega)))))).mono ?_
    rintro e w5 ⟨rfl, b5⟩
    replace HB : Hid (w5.heap[w.heap.size]? = some (.cells #[.int .u8 0, .int .i64 0, .int .u8 0, .int .u8 0, .int .u8 0, .int .u8 0, .slice none 0 0] 46 (0, 0))) := (b5.block _ (by omega)).trans HB.out
    replace GG := Lib.hid (RGoes.below (w := w) (E := E) (s := s) (by repeat (first | (with_reducible exact GG.out) | (with_reducible refine RGoes.alloc ?_ _) | (with_reducible refine RGoes.drew ?_) | ((with_reducible refine RGoes.store ?_ HE.out ?_ _); rotate_left; focus (first | (simp; done) | (simp; omega) | omega)))) b5)
    have sz5 : w.heap.size < w5.heap.size := heap_lt HB.out
    have HO := Lib.hid ho
    clear b5 ho
    go_wp2_with fail
    refine (rfails_any E s _ 5 (by decide) (RGoes.rd (w := w) (by repeat (first | (with_reducible exact GG.out) | (with_reducible refine RGoes.alloc ?_ _) | (with_reducible refine RGoes.drew ?_) | ((with_reducible refine RGoes.store ?_ HE.out ?_ _); rotate_left; focus (first | (simp; done) | (simp; omega) | omega)))))).mono ?_
    rintro e w6 ⟨rfl, g6⟩
    have hB : w6.heap[w.heap.size]? = some (.cells #[.int .u8 0, .int .i64 0, .int .u8 0, .int .u8 0, .int .u8 0, .int .u8 0, .slice none 0 0] 46 (0, 0)) := g6.kept.heap (by omega) HB.out
    replace GG := Lib.hid (RGoes.trans (w := w) (E := E) (s := s) (by repeat (first | (with_reducible exact GG.out) | (with_reducible refine RGoes.alloc ?_ _) | (with_reducible refine RGoes.drew ?_) | ((with_reducible refine RGoes.store ?_ HE.out ?_ _); rotate_left; focus (first | (simp; done) | (simp; omega) | omega)))) g6)
    have e0 := cell_blk (i := 0) hB
    have e1 := cell_blk (i := 1) hB
    have e2 := cell_blk (i := 2) hB
    have e3 := cell_blk (i := 3) hB
    have e4 := cell_blk (i := 4) hB
    have e5 := cell_blk (i := 5) hB
    have e6 := cell_blk (i := 6) hB
    have ef0 := free_blk (i := 0) hB
    have ef1 := free_blk (i := 1) hB
    have ef2 := free_blk (i := 2) hB
    have ef3 := free_blk (i := 3) hB
    have ef4 := free_blk (i := 4) hB
    have ef5 := free_blk (i := 5) hB
    have ef6 := free_blk (i := 6) hB
    simp at e0 e1 e2 e3 e4 e5 e6
    clear g6 hB
    go_wp2
    refine bodyPost_ret (v := .agg #[.int .u8 0, .int .i64 0, .int .u8 0, .int .u8 0, .int .u8 0, .int .u8 0, .slice none 0 0]) (by simp [results, Tryz.results44, go_sem, e0, e1, e2, e3, e4, e5, e6]) rfl ?_
    refine ⟨.zero, _, _, _, s.failR E 5, rfl, ExAt.at_leaf _ _ _ _ _ _ _, ?_, (by repeat (first | (with_reducible exact GG.out) | (with_reducible refine RGoes.alloc ?_ _) | (with_reducible refine RGoes.drew ?_) | ((with_reducible refine RGoes.store ?_ HE.out ?_ _); rotate_left; focus (first | (simp; done) | (simp; omega) | omega))))⟩
    exact (Res.failR E 5 s _).congr fun q hq => by subst hq; exact (expr_none HK.out (sees_no HO.out) (sees_no HL.out) (sees_no HC.out) (sees_no HP.out)).symm
  | true =>
  go_wp2_with fail
  refine (ris_any E s _ _ true (by rfl) ho (RGoes.rd (w := w) (by repeat (first | (with_reducible exact GG.out) | (with_reducible refine RGoes.alloc ?_ _) | (with_reducible refine RGoes.drew ?_) | ((with_reducible refine RGoes.store ?_ HE.out ?_ _); rotate_left; focus (first | (simp; done) | (simp; omega) | omega)))))).mono ?_
  rintro e w5 ⟨rfl, b5⟩
  replace HB : Hid (w5.heap[w.heap.size]? = some (.cells #[.int .u8 0, .int .i64 0, .int .u8 0, .int .u8 0, .int .u8 0, .int .u8 0, .slice none 0 0] 46 (0, 0))) := (b5.block _ (by omega)).trans HB.out
  replace GG := Lib.hid (RGoes.below (w := w) (E := E) (s := s) (by repeat (first | (with_reducible exact GG.out) | (with_reducible refine RGoes.alloc ?_ _) | (with_reducible refine RGoes.drew ?_) | ((with_reducible refine RGoes.store ?_ HE.out ?_ _); rotate_left; focus (first | (simp; done) | (simp; omega) | omega)))) b5)
  have sz5 : w.heap.size < w5.heap.size := heap_lt HB.out
  obtain ⟨p, rfl, ht⟩ := sees_yes ho
  have HT := Lib.hid ht
  clear b5 ho ht
  cases k with
  | zero =>
    have e5 : deep = 5 := by have := HD.out.2; omega
    subst e5
    go_wp2_with fail
    refine (rfails_any E _ _ 3 (by decide) (RGoes.rd (w := w) (by repeat (first | (with_reducible exact GG.out) | (with_reducible refine RGoes.alloc ?_ _) | (with_reducible refine RGoes.drew ?_) | ((with_reducible refine RGoes.store ?_ HE.out ?_ _); rotate_left; focus (first | (simp; done) | (simp; omega) | omega)))))).mono ?_
    rintro e w6 ⟨rfl, g6⟩
    have hB : w6.heap[w.heap.size]? = some (.cells #[.int .u8 0, .int .i64 0, .int .u8 0, .int .u8 0, .int .u8 0, .int .u8 0, .slice none 0 0] 46 (0, 0)) := g6.kept.heap (by omega) HB.out
    replace GG := Lib.hid (RGoes.trans (w := w) (E := E) (s := .ok p) (by repeat (first | (with_reducible exact GG.out) | (with_reducible refine RGoes.alloc ?_ _) | (with_reducible refine RGoes.drew ?_) | ((with_reducible refine RGoes.store ?_ HE.out ?_ _); rotate_left; focus (first | (simp; done) | (simp; omega) | omega)))) g6)
    have e0 := cell_blk (i := 0) hB
    have e1 := cell_blk (i := 1) hB
    have e2 := cell_blk (i := 2) hB
    have e3 := cell_blk (i := 3) hB
    have e4 := cell_blk (i := 4) hB
    have e5 := cell_blk (i := 5) hB
    have e6 := cell_blk (i := 6) hB
    have ef0 := free_blk (i := 0) hB
    have ef1 := free_blk (i := 1) hB
    have ef2 := free_blk (i := 2) hB
    have ef3 := free_blk (i := 3) hB
    have ef4 := free_blk (i := 4) hB
    have ef5 := free_blk (i := 5) hB
    have ef6 := free_blk (i := 6) hB
    simp at e0 e1 e2 e3 e4 e5 e6
    clear g6 hB
    go_wp2
    refine bodyPost_ret (v := .agg #[.int .u8 0, .int .i64 0, .int .u8 0, .int .u8 0, .int .u8 0, .int .u8 0, .slice none 0 0]) (by simp [results, Tryz.results44, go_sem, e0, e1, e2, e3, e4, e5, e6]) rfl ?_
    refine ⟨.zero, _, _, _, RS.failR E 3 (.ok p), rfl, ExAt.at_leaf _ _ _ _ _ _ _, ?_, (by repeat (first | (with_reducible exact GG.out) | (with_reducible refine RGoes.alloc ?_ _) | (with_reducible refine RGoes.drew ?_) | ((with_reducible refine RGoes.store ?_ HE.out ?_ _); rotate_left; focus (first | (simp; done) | (simp; omega) | omega))))⟩
    exact (Res.failR E 3 (.ok p) _).congr fun q hq => by cases hq; exact ((expr_open (k := 0) HT.out).trans rfl).symm
  | succ k =>
  have hdk : deep + 2 ≤ 6 := by have := HD.out.2; omega
  have HI := Lib.hid (HI.out k rfl)
  have hwp : IntKind.i64.wrap (deep + 1) = deep + 1 := IntWalk.i64_in _ (by omega)
  have HD : Hid (0 ≤ deep + 1 ∧ deep + 1 + (k : Int) = 5) := by have := HD.out.2; unfold Hid; omega
  go_wp2_with fail
  refine (rtake_any E (.ok p) _ ⟨#[40]⟩ (by rfl) (RGoes.rd (w := w) (by repeat (first | (with_reducible exact GG.out) | (with_reducible refine RGoes.alloc ?_ _) | (with_reducible refine RGoes.drew ?_) | ((with_reducible refine RGoes.store ?_ HE.out ?_ _); rotate_left; focus (first | (simp; done) | (simp; omega) | omega)))))).mono ?_
  rintro e w6 ⟨rfl, s1, r1, g1⟩
  replace HB : Hid (w6.heap[w.heap.size]? = some (.cells #[.int .u8 0, .int .i64 0, .int .u8 0, .int .u8 0, .int .u8 0, .int .u8 0, .slice none 0 0] 46 (0, 0))) := g1.kept.heap (by omega) HB.out
  replace GG := Lib.hid (RGoes.trans (w := w) (E := E) (s := .ok p) (by repeat (first | (with_reducible exact GG.out) | (with_reducible refine RGoes.alloc ?_ _) | (with_reducible refine RGoes.drew ?_) | ((with_reducible refine RGoes.store ?_ HE.out ?_ _); rotate_left; focus (first | (simp; done) | (simp; omega) | omega)))) g1)
  have sz6 : w.heap.size < w6.heap.size := heap_lt HB.out
  have R1 := Lib.hid r1
  clear r1 g1
  go_wp2_with fail
  refine (rone_any E s1 _ _ opsW wdy_ops (words_ops _ E.R _ (by simp) (by omega)) (RGoes.rd (w := w) (by repeat (first | (with_reducible exact GG.out) | (with_reducible refine RGoes.alloc ?_ _) | (with_reducible refine RGoes.drew ?_) | ((with_reducible refine RGoes.store ?_ HE.out ?_ _); rotate_left; focus (first | (simp; done) | (simp; omega) | omega)))))).mono ?_
  rintro e w7 ⟨o, s2, rfl, r2, l2, g2⟩
  replace HB : Hid (w7.heap[w.heap.size]? = some (.cells #[.int .u8 0, .int .i64 0, .int .u8 0, .int .u8 0, .int .u8 0, .int .u8 0, .slice none 0 0] 46 (0, 0))) := by refine g2.kept.heap (by omega) ?_; exact (by repeat (first | (with_reducible exact HB.out) | (with_reducible exact heap_alloc_new _ _) | (with_reducible refine heap_old ?_) | (with_reducible refine heap_drew ?_) | ((with_reducible refine heap_other ?_ ?_); rotate_left; focus (first | (simp; done) | (simp; omega) | omega))))
  replace GG := Lib.hid (RGoes.trans (w := w) (E := E) (s := s1) (by repeat (first | (with_reducible exact GG.out) | (with_reducible refine RGoes.alloc ?_ _) | (with_reducible refine RGoes.drew ?_) | ((with_reducible refine RGoes.store ?_ HE.out ?_ _); rotate_left; focus (first | (simp; done) | (simp; omega) | omega)))) g2)
  have sz7 : w.heap.size < w7.heap.size := heap_lt HB.out
  have ho : o < 8 := l2
  have ho1 : (o : Int) ≤ 7 := by omega
  have ho0 : (0 : Int) ≤ (o : Int) := by omega
  have R2 := Lib.hid r2
  clear r2 l2 g2
  go_upto_region 17 with fail
  obtain ⟨q, hq⟩ : ∃ q : Nat, q = 4 + o := ⟨_, rfl⟩
  rw [show (4 : Int) + (o : Int) = (q : Int) from by omega]
  have HQ := Lib.hid hq
  clear hq
  have HX := Lib.hid (heap_alloc_new w7 (.cells #[.int .u8 q, .int .i64 0, .int .u8 0, .int .u8 0, .int .u8 0, .int .u8 0, .slice none 0 0] 46))
  have cX : (w7.alloc (.cells #[.int .u8 q, .int .i64 0, .int .u8 0, .int .u8 0, .int .u8 0, .int .u8 0, .slice none 0 0] 46)).cell? ⟨w7.heap.size, 6, none⟩ = some (.slice none 0 0) := by rw [cell_blk HX.out]; rfl
  have fX : (w7.alloc (.cells #[.int .u8 q, .int .i64 0, .int .u8 0, .int .u8 0, .int .u8 0, .int .u8 0, .slice none 0 0] 46)).frozen? ⟨w7.heap.size, 6, none⟩ = false := free_blk HX.out
  go_cut [48] (fun s48 wx => RNest E k w w7.heap.size q 1 (One E.ts k s2) wx)
  case first =>
    clear HSS HL HC HP HK hf0 hk2 R1 sz1 sz2 sz3 sz4 sz5 sz6
    go_region_law (first
        | (refine step_append_lies _ (by rfl) _ _ _ (by rfl) (w7.heap.size + 1) 46 i0 _ 7 48 Tryz.underlying31 hi0 hz0 hz1 hz2 rfl (by omega) _ 0 [] (by rfl) (World.ownsRow_nil _ _ _ _) ⟨w5.heap.size, 0, none⟩ 1 1 (exV x1 (.slice va1 vn1 vc1)) (by rfl) (by rfl) (World.news_of_block (cs := (exV x1 (.slice va1 vn1 vc1)).toArray) (t := 46) (fr := (0, 0)) (heap_alloc_new _ _)) (by simp [exV, Value.oneCell']) (by omega) (by decide) (by omega) (by have := heap_lt hX5; simp; omega) _ rfl ?_; intro g cap w6 hown6 hgrow6 hat6 hlt6; have hgr6 : World.grownBy _ w6 none := hgrow6; have hX6 : w6.heap[w7.heap.size]? = some (.cells #[.int .u8 q, .int .i64 0, .int .u8 0, .int .u8 0, .int .u8 0, .int .u8 0, .slice none 0 0] 46 (0, 0)) := (hgr6.block _ (by have := heap_lt hX5; simp; omega) (by simp)).trans (heap_old hX5); have cX6 : w6.cell? ⟨w7.heap.size, 6, none⟩ = some (.slice none 0 0) := (by rw [cell_blk hX6]; rfl); have fX6 : w6.frozen? ⟨w7.heap.size, 6, none⟩ = false := free_blk hX6)
        | (go_simp; go_at_call 44; refine (HI.out E s2 (deep + 1) _ HD.out (RGoes.rd (w := w) (by repeat (first | (with_reducible exact GG.out) | (with_reducible refine RGoes.alloc ?_ _) | (with_reducible refine RGoes.drew ?_) | ((with_reducible refine RGoes.store ?_ HE.out ?_ _); rotate_left; focus (first | (simp; done) | (simp; omega) | omega)))))).mono ?_; rintro e w5 ⟨x1, va1, vn1, vc1, s3, rfl, hx1, r3, g3⟩;
           have hX5 : w5.heap[w7.heap.size]? = some (.cells #[.int .u8 q, .int .i64 0, .int .u8 0, .int .u8 0, .int .u8 0, .int .u8 0, .slice none 0 0] 46 (0, 0)) := (by refine g3.kept.heap (by omega) ?_; exact (by repeat (first | (with_reducible exact HX.out) | (with_reducible exact heap_alloc_new _ _) | (with_reducible refine heap_old ?_) | (with_reducible refine heap_drew ?_) | ((with_reducible refine heap_other ?_ ?_); rotate_left; focus (first | (simp; done) | (simp; omega) | omega)))));
           have cX5 : w5.cell? ⟨w7.heap.size, 6, none⟩ = some (.slice none 0 0) := (by rw [cell_blk hX5]; rfl); have lX5 : w7.heap.size < w5.heap.size := heap_lt hX5; have nX5 : w7.heap.size ≠ w5.heap.size := Nat.ne_of_lt lX5))

    all_goals
      go_wp2_with fail
      go_meet
      exact ⟨[x1], s3, g, cap, ⟨x1, rfl, r3⟩, rfl, rnest_step (s2 := s2) (v := .slice none 0 0) (xs := []) (css := []) HE.out (by omega) (by repeat (first | (with_reducible exact GG.out) | (with_reducible refine RGoes.alloc ?_ _) | (with_reducible refine RGoes.drew ?_) | ((with_reducible refine RGoes.store ?_ HE.out ?_ _); rotate_left; focus (first | (simp; done) | (simp; omega) | omega)))) g3 (by repeat (first | (with_reducible exact HB.out) | (with_reducible exact heap_alloc_new _ _) | (with_reducible refine heap_old ?_) | (with_reducible refine heap_drew ?_) | ((with_reducible refine heap_other ?_ ?_); rotate_left; focus (first | (simp; done) | (simp; omega) | omega)))) (by repeat (first | (with_reducible exact HX.out) | (with_reducible exact heap_alloc_new _ _) | (with_reducible refine heap_old ?_) | (with_reducible refine heap_drew ?_) | ((with_reducible refine heap_other ?_ ?_); rotate_left; focus (first | (simp; done) | (simp; omega) | omega)))) (RowOf.nil _ _ _ _ _) hx1 hown6 hgr6 hat6⟩
  case rest =>
    obtain ⟨xs, s3, g, cap, ⟨x1, rfl, r3⟩, -, gg, hB, hX, hr⟩ := hcut
    have R3 := Lib.hid r3
    clear r3
    by_cases h7 : o = 7
    · have q11 : q = 11 := by rw [HQ.out, h7]
      subst q11
      have cx0 := cell_blk (i := 0) hX
      have cx1 := cell_blk (i := 1) hX
      have cx2 := cell_blk (i := 2) hX
      have cx3 := cell_blk (i := 3) hX
      have cx4 := cell_blk (i := 4) hX
      have cx5 := cell_blk (i := 5) hX
      have cx6 := cell_blk (i := 6) hX
      have cxf0 := free_blk (i := 0) hX
      have cxf1 := free_blk (i := 1) hX
      have cxf2 := free_blk (i := 2) hX
      have cxf3 := free_blk (i := 3) hX
      have cxf4 := free_blk (i := 4) hX
      have cxf5 := free_blk (i := 5) hX
      have cxf6 := free_blk (i := 6) hX
      simp at cx0 cx1 cx2 cx3 cx4 cx5 cx6
      have X0 := Lib.hid hX
      have HX := X0
      replace HB := Lib.hid hB
      replace GG := Lib.hid gg
      have sz4 : w7.heap.size < wc.heap.size := heap_lt hX
      clear hB hX gg
      go_wp2_with fail
      refine (rtake_any E s3 _ ⟨#[41]⟩ (by rfl) (RGoes.rd (w := w) (by repeat (first | (with_reducible exact GG.out) | (with_reducible refine RGoes.alloc ?_ _) | (with_reducible refine RGoes.drew ?_) | ((with_reducible refine RGoes.store ?_ HE.out ?_ _); rotate_left; focus (first | (simp; done) | (simp; omega) | omega)))))).mono ?_
      rintro e w8 ⟨rfl, s8, r8, g8⟩
      have hB8 := g8.kept.heap (k := w.heap.size) (by omega) HB.out
      have hX8 := g8.kept.heap (k := w7.heap.size) (by omega) HX.out
      have e0 := cell_blk (i := 0) hB8
      have e1 := cell_blk (i := 1) hB8
      have e2 := cell_blk (i := 2) hB8
      have e3 := cell_blk (i := 3) hB8
      have e4 := cell_blk (i := 4) hB8
      have e5 := cell_blk (i := 5) hB8
      have e6 := cell_blk (i := 6) hB8
      have ef0 := free_blk (i := 0) hB8
      have ef1 := free_blk (i := 1) hB8
      have ef2 := free_blk (i := 2) hB8
      have ef3 := free_blk (i := 3) hB8
      have ef4 := free_blk (i := 4) hB8
      have ef5 := free_blk (i := 5) hB8
      have ef6 := free_blk (i := 6) hB8
      simp at e0 e1 e2 e3 e4 e5 e6
      have cy0 := cell_blk (i := 0) hX8
      have cy1 := cell_blk (i := 1) hX8
      have cy2 := cell_blk (i := 2) hX8
      have cy3 := cell_blk (i := 3) hX8
      have cy4 := cell_blk (i := 4) hX8
      have cy5 := cell_blk (i := 5) hX8
      have cy6 := cell_blk (i := 6) hX8
      have cyf0 := free_blk (i := 0) hX8
      have cyf1 := free_blk (i := 1) hX8
      have cyf2 := free_blk (i := 2) hX8
      have cyf3 := free_blk (i := 3) hX8
      have cyf4 := free_blk (i := 4) hX8
      have cyf5 := free_blk (i := 5) hX8
      have cyf6 := free_blk (i := 6) hX8
      simp at cy0 cy1 cy2 cy3 cy4 cy5 cy6
      have sz8 : w7.heap.size < w8.heap.size := heap_lt hX8
      have HR := Lib.hid (row_above (B' := w7.heap.size + 1) (w' := w8) (ExAt.frames k) hr ((Above.refl _ _).kept g8.kept (by omega)) (Nat.le_refl _))
      replace GG := Lib.hid (RGoes.trans (w := w) (E := E) (s := s3) (by repeat (first | (with_reducible exact GG.out) | (with_reducible refine RGoes.alloc ?_ _) | (with_reducible refine RGoes.drew ?_) | ((with_reducible refine RGoes.store ?_ HE.out ?_ _); rotate_left; focus (first | (simp; done) | (simp; omega) | omega)))) g8)
      have R8 := Lib.hid r8
      clear r8 g8 hB8 hX8 hr
      go_wp2
      refine bodyPost_ret (v := .agg #[.int .u8 11, .int .i64 0, .int .u8 0, .int .u8 0, .int .u8 0, .int .u8 0, .slice (some ⟨g, 0, none⟩) 1 cap]) (by simp [results, Tryz.results44, go_sem, e0, e1, e2, e3, e4, e5, e6]) rfl ?_
      refine ⟨.mk 11 0 0 .zero [x1], some ⟨g, 0, none⟩, 1, cap, s8, rfl, ⟨_, rfl, row_above (w := w8) (B := w7.heap.size + 1) (B' := w.heap.size) (ExAt.frames k) HR.out (by repeat (first | (with_reducible exact Above.refl _ _) | (with_reducible refine Above.alloc ?_ _) | (with_reducible refine Above.drew ?_) | ((with_reducible refine Above.setCell ?_ ?_ _); rotate_left; focus (first | (simp; done) | (simp; omega) | omega)))) (by omega)⟩, ?_, (by repeat (first | (with_reducible exact GG.out) | (with_reducible refine RGoes.alloc ?_ _) | (with_reducible refine RGoes.drew ?_) | ((with_reducible refine RGoes.store ?_ HE.out ?_ _); rotate_left; focus (first | (simp; done) | (simp; omega) | omega))))⟩
      rw [show Ex.mk 11 0 0 .zero [x1] = Ex.mk (4 + o) 0 0 .zero [x1] by rw [h7]]
      exact res_expr (f := pNest E.ts (pExpr E.ts k)) (fun q hq => by cases hq; exact (expr_open (k := k + 1) HT.out).trans rfl) (Res.bind R1.out (Res.bind R2.out (Res.bind (Res.bind R3.out (by rw [if_pos h7]; exact Res.pure _ _)) (Res.map _ R8.out))))
    · have q11 : ((q : Int) != 11) = true := by rw [HQ.out]; simp; omega
      have cx0 := cell_blk (i := 0) hX
      have cx1 := cell_blk (i := 1) hX
      have cx2 := cell_blk (i := 2) hX
      have cx3 := cell_blk (i := 3) hX
      have cx4 := cell_blk (i := 4) hX
      have cx5 := cell_blk (i := 5) hX
      have cx6 := cell_blk (i := 6) hX
      have cxf0 := free_blk (i := 0) hX
      have cxf1 := free_blk (i := 1) hX
      have cxf2 := free_blk (i := 2) hX
      have cxf3 := free_blk (i := 3) hX
      have cxf4 := free_blk (i := 4) hX
      have cxf5 := free_blk (i := 5) hX
      have cxf6 := free_blk (i := 6) hX
      simp at cx0 cx1 cx2 cx3 cx4 cx5 cx6
      have X0 := Lib.hid hX
      have HX := X0
      replace HB := Lib.hid hB
      replace GG := Lib.hid gg
      have sz4 : w7.heap.size < wc.heap.size := heap_lt hX
      clear hB hX gg
      go_upto_region 19 with fail
      obtain ⟨css, hrow⟩ := hr
      have hgX : w7.heap.size + 1 ≤ g := hrow.blk g rfl
      have HRow := Lib.hid hrow
      clear hrow
      go_cut [60] (fun s60 wx => RNest E k w w7.heap.size q 2 (fun xs s4 => Res (pArgs (pExpr E.ts k) o) s2 xs s4) wx)
      case first =>
        go_region_law (first
            | (refine step_append_lies _ (by rfl) _ _ _ (by rfl) 0 46 i0 _ 7 48 Tryz.underlying31 hi0 hz0 hz1 hz2 rfl (by omega) _ 1 css.flatten (by rfl) (ownsRow_base (ownsRow_same (b := 0) HRow.out.own (fun i hi => (Below.heap_alloc _ _ _ (by have := (HRow.out.own.lt i hi).2; have := g4.kept.size; simp at this; omega)).trans (g4.kept.block i (by have := (HRow.out.own.lt i hi).2; simpa using this) (by have := HRow.out.blk i hi; unfold From at this; omega)))) (Nat.le_refl _)) ⟨w5.heap.size, 0, none⟩ 1 1 (exV x2 (.slice va1 vn1 vc1)) (by rfl) (by rfl) (World.news_of_block (cs := (exV x2 (.slice va1 vn1 vc1)).toArray) (t := 46) (fr := (0, 0)) (heap_alloc_new _ _)) (by simp [exV, Value.oneCell']) (by omega) (by decide) (by omega) (Nat.zero_le _) _ rfl ?_; intro g6 cap6 w6 hown6 hgrow6 hat6 hlt6; have hgr6 : World.grownBy _ w6 (some g) := hgrow6; have hX6 : w6.heap[w7.heap.size]? = some (.cells #[.int .u8 q, .int .i64 0, .int .u8 0, .int .u8 0, .int .u8 0, .int .u8 0, .slice (some ⟨g, 0, none⟩) 1 cap] 46 (0, 0)) := (hgr6.block _ (by have := heap_lt hX5; simp; omega) (by have := hgX; simp; omega)).trans (heap_old hX5); have cX6 : w6.cell? ⟨w7.heap.size, 6, none⟩ = some (.slice (some ⟨g, 0, none⟩) 1 cap) := (by rw [cell_blk hX6]; rfl); have fX6 : w6.frozen? ⟨w7.heap.size, 6, none⟩ = false := free_blk hX6)
            | (go_simp; go_at_call 44; refine (HI.out E s3 (deep + 1) _ HD.out (RGoes.rd (w := w) (by repeat (first | (with_reducible exact GG.out) | (with_reducible refine RGoes.alloc ?_ _) | (with_reducible refine RGoes.drew ?_) | ((with_reducible refine RGoes.store ?_ HE.out ?_ _); rotate_left; focus (first | (simp; done) | (simp; omega) | omega)))))).mono ?_; rintro e w5 ⟨x2, va1, vn1, vc1, s4, rfl, hx1, r4, g4⟩;
               have hX5 : w5.heap[w7.heap.size]? = some (.cells #[.int .u8 q, .int .i64 0, .int .u8 0, .int .u8 0, .int .u8 0, .int .u8 0, .slice (some ⟨g, 0, none⟩) 1 cap] 46 (0, 0)) := (by refine g4.kept.heap (by omega) ?_; exact (by repeat (first | (with_reducible exact HX.out) | (with_reducible exact heap_alloc_new _ _) | (with_reducible refine heap_old ?_) | (with_reducible refine heap_drew ?_) | ((with_reducible refine heap_other ?_ ?_); rotate_left; focus (first | (simp; done) | (simp; omega) | omega)))));
               have cX5 : w5.cell? ⟨w7.heap.size, 6, none⟩ = some (.slice (some ⟨g, 0, none⟩) 1 cap) := (by rw [cell_blk hX5]; rfl); have lX5 : w7.heap.size < w5.heap.size := heap_lt hX5; have nX5 : w7.heap.size ≠ w5.heap.size := Nat.ne_of_lt lX5))

        all_goals
          go_wp2_with fail
          go_meet
          exact ⟨[x1, x2], s4, g6, cap6, Res.bind R3.out (by rw [if_neg h7]; exact Res.map _ r4), rfl, rnest_step (s2 := s3) (v := .slice (some ⟨g, 0, none⟩) 1 cap) (xs := [x1]) (css := css) HE.out (by omega) (by repeat (first | (with_reducible exact GG.out) | (with_reducible refine RGoes.alloc ?_ _) | (with_reducible refine RGoes.drew ?_) | ((with_reducible refine RGoes.store ?_ HE.out ?_ _); rotate_left; focus (first | (simp; done) | (simp; omega) | omega)))) g4 (by repeat (first | (with_reducible exact HB.out) | (with_reducible exact heap_alloc_new _ _) | (with_reducible refine heap_old ?_) | (with_reducible refine heap_drew ?_) | ((with_reducible refine heap_other ?_ ?_); rotate_left; focus (first | (simp; done) | (simp; omega) | omega)))) (by repeat (first | (with_reducible exact HX.out) | (with_reducible exact heap_alloc_new _ _) | (with_reducible refine heap_old ?_) | (with_reducible refine heap_drew ?_) | ((with_reducible refine heap_other ?_ ?_); rotate_left; focus (first | (simp; done) | (simp; omega) | omega)))) (HRow.out.frame (ExAt.frames k) fun i hi _ => ⟨hi, rfl⟩) hx1 hown6 hgr6 hat6⟩
      case rest =>
        clear cx0 cx1 cx2 cx3 cx4 cx5 cx6 cxf0 cxf1 cxf2 cxf3 cxf4 cxf5 cxf6 HX HB GG HRow X0 q11
        obtain ⟨ys, s4, g9, cap9, r4, -, gg, hB, hX, hr⟩ := hcut
        have R4 := Lib.hid r4
        clear r4
        have cx0 := cell_blk (i := 0) hX
        have cx1 := cell_blk (i := 1) hX
        have cx2 := cell_blk (i := 2) hX
        have cx3 := cell_blk (i := 3) hX
        have cx4 := cell_blk (i := 4) hX
        have cx5 := cell_blk (i := 5) hX
        have cx6 := cell_blk (i := 6) hX
        have cxf0 := free_blk (i := 0) hX
        have cxf1 := free_blk (i := 1) hX
        have cxf2 := free_blk (i := 2) hX
        have cxf3 := free_blk (i := 3) hX
        have cxf4 := free_blk (i := 4) hX
        have cxf5 := free_blk (i := 5) hX
        have cxf6 := free_blk (i := 6) hX
        simp at cx0 cx1 cx2 cx3 cx4 cx5 cx6
        have HX := Lib.hid hX
        replace HB := Lib.hid hB
        replace GG := Lib.hid gg
        have sz9 : w7.heap.size < wc.heap.size := heap_lt hX
        clear hB hX gg
        go_wp2_with fail
        refine (rtake_any E s4 _ ⟨#[41]⟩ (by rfl) (RGoes.rd (w := w) (by repeat (first | (with_reducible exact GG.out) | (with_reducible refine RGoes.alloc ?_ _) | (with_reducible refine RGoes.drew ?_) | ((with_reducible refine RGoes.store ?_ HE.out ?_ _); rotate_left; focus (first | (simp; done) | (simp; omega) | omega)))))).mono ?_
        rintro e w8 ⟨rfl, s8, r8, g8⟩
        have hB8 := g8.kept.heap (k := w.heap.size) (by omega) HB.out
        have hX8 := g8.kept.heap (k := w7.heap.size) (by omega) HX.out
        have e0 := cell_blk (i := 0) hB8
        have e1 := cell_blk (i := 1) hB8
        have e2 := cell_blk (i := 2) hB8
        have e3 := cell_blk (i := 3) hB8
        have e4 := cell_blk (i := 4) hB8
        have e5 := cell_blk (i := 5) hB8
        have e6 := cell_blk (i := 6) hB8
        have ef0 := free_blk (i := 0) hB8
        have ef1 := free_blk (i := 1) hB8
        have ef2 := free_blk (i := 2) hB8
        have ef3 := free_blk (i := 3) hB8
        have ef4 := free_blk (i := 4) hB8
        have ef5 := free_blk (i := 5) hB8
        have ef6 := free_blk (i := 6) hB8
        simp at e0 e1 e2 e3 e4 e5 e6
        have cy0 := cell_blk (i := 0) hX8
        have cy1 := cell_blk (i := 1) hX8
        have cy2 := cell_blk (i := 2) hX8
        have cy3 := cell_blk (i := 3) hX8
        have cy4 := cell_blk (i := 4) hX8
        have cy5 := cell_blk (i := 5) hX8
        have cy6 := cell_blk (i := 6) hX8
        have cyf0 := free_blk (i := 0) hX8
        have cyf1 := free_blk (i := 1) hX8
        have cyf2 := free_blk (i := 2) hX8
        have cyf3 := free_blk (i := 3) hX8
        have cyf4 := free_blk (i := 4) hX8
        have cyf5 := free_blk (i := 5) hX8
        have cyf6 := free_blk (i := 6) hX8
        simp at cy0 cy1 cy2 cy3 cy4 cy5 cy6
        have sz8 : w7.heap.size < w8.heap.size := heap_lt hX8
        have HR := Lib.hid (row_above (B' := w7.heap.size + 1) (w' := w8) (ExAt.frames k) hr ((Above.refl _ _).kept g8.kept (by omega)) (Nat.le_refl _))
        replace GG := Lib.hid (RGoes.trans (w := w) (E := E) (s := s4) (by repeat (first | (with_reducible exact GG.out) | (with_reducible refine RGoes.alloc ?_ _) | (with_reducible refine RGoes.drew ?_) | ((with_reducible refine RGoes.store ?_ HE.out ?_ _); rotate_left; focus (first | (simp; done) | (simp; omega) | omega)))) g8)
        have R8 := Lib.hid r8
        clear r8 g8 hB8 hX8 hr
        go_wp2
        refine bodyPost_ret (v := .agg #[.int .u8 q, .int .i64 0, .int .u8 0, .int .u8 0, .int .u8 0, .int .u8 0, .slice (some ⟨g9, 0, none⟩) 2 cap9]) (by simp [results, Tryz.results44, go_sem, e0, e1, e2, e3, e4, e5, e6]) rfl ?_
        refine ⟨.mk q 0 0 .zero ys, some ⟨g9, 0, none⟩, 2, cap9, s8, rfl, ⟨_, rfl, row_above (w := w8) (B := w7.heap.size + 1) (B' := w.heap.size) (ExAt.frames k) HR.out (by repeat (first | (with_reducible exact Above.refl _ _) | (with_reducible refine Above.alloc ?_ _) | (with_reducible refine Above.drew ?_) | ((with_reducible refine Above.setCell ?_ ?_ _); rotate_left; focus (first | (simp; done) | (simp; omega) | omega)))) (by omega)⟩, ?_, (by repeat (first | (with_reducible exact GG.out) | (with_reducible refine RGoes.alloc ?_ _) | (with_reducible refine RGoes.drew ?_) | ((with_reducible refine RGoes.store ?_ HE.out ?_ _); rotate_left; focus (first | (simp; done) | (simp; omega) | omega))))⟩
        rw [HQ.out]
        exact res_expr (f := pNest E.ts (pExpr E.ts k)) (fun q hq => by cases hq; exact (expr_open (k := k + 1) HT.out).trans rfl) (Res.bind R1.out (Res.bind R2.out (Res.bind R4.out (Res.map _ R8.out))))
end Go.Proofs.YtmhpopkbmnhkkaaGreatDoor
