import Derived.Test.YtmhpopkbmnhkkaaGreatDoorQRpExpr
import Derived.Test.YtmhpopkbmnhkkaaGreatDoorQParDo
/- joustref02: a step. -/
namespace Go.Proofs.YtmhpopkbmnhkkaaGreatDoor
open Go.RowKit Go.Lib

theorem rexpr_any : ∀ k, k ≤ 5 → RExprSaid k
  | 0, h => rexpr_of 0 h (fun j hj => by omega)
  | k + 1, h => rexpr_of (k + 1) h (fun j hj => by have e : j = k := by omega
                                                   subst e; exact rexpr_any j (by omega))
theorem rexpr_five (E : REnv) (s : RS) (w : World) (h : RR w E s) : Calls Tryz.prog 44 #[.pointer (some ⟨E.R, 0, none⟩), .int .i64 0] w (RExEnds (pExpr E.ts 5) E s 5 w) := rexpr_any 5 (by omega) E s 0 w (by decide) h

def RStEnds (p : Par St) (E : REnv) (s : RS) (w : World) (e : Ending) (w' : World) : Prop := ∃ (x : St) (va : Option Addr) (vn vc : Nat) (s' : RS),
  e = .returned (.agg #[.int .u8 x.dof, .int .u8 x.side, .int .u8 (Ex.op x.n), .int .i64 (Ex.n x.n), .int .u8 (Ex.side x.n), .int .u8 (Ex.sel x.n).side, .int .u8 (Ex.sel x.n).zone, .int .u8 (Ex.sel x.n).kind, .slice va vn vc, .bool x.all, .int .u8 (Sl.side x.sel), .int .u8 (Sl.zone x.sel), .int .u8 (Sl.kind x.sel)]) ∧ ExAt 5 w' (From w.heap.size) (exV x.n (.slice va vn vc)) x.n ∧ Res p s x s' ∧ RGoes w E s' w'
def RMaybeEnds (x : St) (va : Option Addr) (vn vc : Nat) (E : REnv) (s : RS) (w : World) (e : Ending) (w' : World) : Prop := ∃ (b : Bool) (sl : Sl) (s' : RS),
  e = .returned (.agg #[.int .u8 x.dof, .int .u8 x.side, .int .u8 (Ex.op x.n), .int .i64 (Ex.n x.n), .int .u8 (Ex.side x.n), .int .u8 (Ex.sel x.n).side, .int .u8 (Ex.sel x.n).zone, .int .u8 (Ex.sel x.n).kind, .slice va vn vc, .bool b, .int .u8 (Sl.side sl), .int .u8 (Sl.zone sl), .int .u8 (Sl.kind sl)]) ∧ Res (pMaybe E.ts x) s { x with all := b, sel := sl } s' ∧ RGoes w E s' w'

/-- What a call has laid: its result's block, and that of its variable. -/
structure Mid (E : REnv) (w W : World) (s : RS) (T : TypeId) (z : Array Value) (X : Nat) (x : Array Value) : Prop where
  goes : RGoes w E s W
  res : W.heap[w.heap.size]? = some (.cells z T (0, 0))
  loc : W.heap[X]? = some (.cells x T (0, 0))
  gt : w.heap.size < X
section
variable {E : REnv} {w W W' : World} {s s' : RS} {T : TypeId} {z x x' : Array Value} {X : Nat}
theorem Mid.lt (h : Mid E w W s T z X x) : X < W.heap.size := heap_lt h.loc
theorem Mid.call (h : Mid E w W s T z X x) (he : REnvAt w E ∧ E.R < w.heap.size) (g : RGoes W E s' W') : Mid E w W' s' T z X x :=
  ⟨h.goes.trans g, g.kept.heap (by have := he.2; omega) h.res, g.kept.heap (by have := he.2; have := h.gt; omega) h.loc, h.gt⟩
theorem Mid.below (h : Mid E w W s T z X x) (b : Below W.heap.size W W') : Mid E w W' s T z X x := ⟨h.goes.below b, (b.block _ (heap_lt h.res)).trans h.res, (b.block _ (heap_lt h.loc)).trans h.loc, h.gt⟩
theorem Mid.set (h : Mid E w W s T z X x) (he : REnvAt w E ∧ E.R < w.heap.size) (i : Nat) (u : Value) : Mid E w (W.setCell ⟨X, i, none⟩ u) s T z X (x.setIfInBounds i u) :=
  ⟨h.goes.store he (Nat.le_of_lt h.gt) _, heap_other h.res (Nat.ne_of_lt h.gt), heap_set h.loc _, h.gt⟩
theorem Mid.as (h : Mid E w W s T z X x) (e : x = x') : Mid E w W s T z X x' := e ▸ h
theorem Mid.alloc (h : Mid E w W s T z X x) (o : Obj) : Mid E w (W.alloc o) s T z X x := h.below ((Below.refl _ _).alloc (Nat.le_refl _) _)
theorem Mid.new (g : RGoes w E s W) (hr : W.heap[w.heap.size]? = some (.cells z T (0, 0))) (x : Array Value) : Mid E w (W.alloc (.cells x T)) s T z W.heap.size x :=
  ⟨g.alloc _, heap_old hr, heap_alloc_new _ _, heap_lt hr⟩
end

set_option maxHeartbeats 2000000 in
set_option maxRecDepth 100000 in
theorem rmaybe_any (E : REnv) (s : RS) (w : World) (x : St) (va : Option Addr) (vn vc : Nat) (hx : x.all = false ∧ x.sel = .zero) (h : RR w E s) :
    Calls Tryz.prog 160 #[.pointer (some ⟨E.R, 0, none⟩), .agg #[.int .u8 x.dof, .int .u8 x.side, .int .u8 (Ex.op x.n), .int .i64 (Ex.n x.n), .int .u8 (Ex.side x.n), .int .u8 (Ex.sel x.n).side, .int .u8 (Ex.sel x.n).zone, .int .u8 (Ex.sel x.n).kind, .slice va vn vc, .bool false, .int .u8 0, .int .u8 0, .int .u8 0]] w (RMaybeEnds x va vn vc E s w) := by
  have HE := Lib.hid h.both
  have GG := Lib.hid (RGoes.start h)
  have hlt := h.lt
  have hxx : Hid (x = { x with all := false, sel := .zero }) := by obtain ⟨a, b⟩ := hx; cases x; simp_all [Hid]
  clear h hx
  go_enter Tryz.func160, Tryz.ntmps160
  go_wp2_with fail
  refine (rSides_any E.R _ (by simp; omega)).mono ?_
  rintro e w1 ⟨v1, rfl, hv1, b1⟩
  have HV := Lib.hid hv1
  obtain ⟨wa, wn, wc, rfl⟩ := hv1.form
  have HX : Hid (w1.heap[w.heap.size]? = some (.cells #[.int .u8 x.dof, .int .u8 x.side, .int .u8 (Ex.op x.n), .int .i64 (Ex.n x.n), .int .u8 (Ex.side x.n), .int .u8 (Ex.sel x.n).side, .int .u8 (Ex.sel x.n).zone, .int .u8 (Ex.sel x.n).kind, .slice va vn vc, .bool false, .int .u8 0, .int .u8 0, .int .u8 0] 58 (0, 0))) := by refine (b1.block _ (by simp; omega)).trans ?_; exact heap_old (heap_alloc_new _ _)
  have HB : Hid (w1.heap[w.heap.size + 1]? = some (.cells #[.int .u8 0, .int .u8 0, .int .u8 0, .int .i64 0, .int .u8 0, .int .u8 0, .int .u8 0, .int .u8 0, .slice none 0 0, .bool false, .int .u8 0, .int .u8 0, .int .u8 0] 58 (0, 0))) := by refine (b1.block _ (by simp)).trans ?_; exact heap_new_at _ _ _ (by simp)
  replace GG := Lib.hid (RGoes.below (w := w) (E := E) (s := s) (by repeat (first | (with_reducible exact GG.out) | (with_reducible refine RGoes.alloc ?_ _) | (with_reducible refine RGoes.drew ?_) | ((with_reducible refine RGoes.store ?_ HE.out ?_ _); rotate_left; focus (first | (simp; done) | (simp; omega) | omega)))) b1)
  have sz1 : w.heap.size + 1 < w1.heap.size := heap_lt HB.out
  clear b1 hv1
  go_wp2_with fail
  refine (ramong_any E s _ _ sidesW wdy_sides HV.out (RGoes.rd (w := w) (by repeat (first | (with_reducible exact GG.out) | (with_reducible refine RGoes.alloc ?_ _) | (with_reducible refine RGoes.drew ?_) | ((with_reducible refine RGoes.store ?_ HE.out ?_ _); rotate_left; focus (first | (simp; done) | (simp; omega) | omega)))))).mono ?_
  rintro e w2 ⟨rfl, g2⟩
  replace HX := Lib.hid (g2.kept.heap (k := w.heap.size) (by omega) HX.out)
  replace HB := Lib.hid (g2.kept.heap (k := w.heap.size + 1) (by omega) HB.out)
  replace GG := Lib.hid (RGoes.trans (w := w) (E := E) (s := s) (by repeat (first | (with_reducible exact GG.out) | (with_reducible refine RGoes.alloc ?_ _) | (with_reducible refine RGoes.drew ?_) | ((with_reducible refine RGoes.store ?_ HE.out ?_ _); rotate_left; focus (first | (simp; done) | (simp; omega) | omega)))) g2)
  have sz2 : w.heap.size + 1 < w2.heap.size := heap_lt HB.out
  clear g2 HV
  cases ha : amongW E s sidesW with
  | false =>
    have hX := HX.out
    have hB := HB.out
    have cx0 := cell_blk (i := 0) hX
    have cx1 := cell_blk (i := 1) hX
    have cx2 := cell_blk (i := 2) hX
    have cx3 := cell_blk (i := 3) hX
    have cx4 := cell_blk (i := 4) hX
    have cx5 := cell_blk (i := 5) hX
    have cx6 := cell_blk (i := 6) hX
    have cx7 := cell_blk (i := 7) hX
    have cx8 := cell_blk (i := 8) hX
    have cx9 := cell_blk (i := 9) hX
    have cx10 := cell_blk (i := 10) hX
    have cx11 := cell_blk (i := 11) hX
    have cx12 := cell_blk (i := 12) hX
    have cxf0 := free_blk (i := 0) hX
    have cxf1 := free_blk (i := 1) hX
    have cxf2 := free_blk (i := 2) hX
    have cxf3 := free_blk (i := 3) hX
    have cxf4 := free_blk (i := 4) hX
    have cxf5 := free_blk (i := 5) hX
    have cxf6 := free_blk (i := 6) hX
    have cxf7 := free_blk (i := 7) hX
    have cxf8 := free_blk (i := 8) hX
    have cxf9 := free_blk (i := 9) hX
    have cxf10 := free_blk (i := 10) hX
    have cxf11 := free_blk (i := 11) hX
    have cxf12 := free_blk (i := 12) hX
    simp at cx0 cx1 cx2 cx3 cx4 cx5 cx6 cx7 cx8 cx9 cx10 cx11 cx12
    have e0 := cell_blk (i := 0) hB
    have e1 := cell_blk (i := 1) hB
    have e2 := cell_blk (i := 2) hB
    have e3 := cell_blk (i := 3) hB
    have e4 := cell_blk (i := 4) hB
    have e5 := cell_blk (i := 5) hB
    have e6 := cell_blk (i := 6) hB
    have e7 := cell_blk (i := 7) hB
    have e8 := cell_blk (i := 8) hB
    have e9 := cell_blk (i := 9) hB
    have e10 := cell_blk (i := 10) hB
    have e11 := cell_blk (i := 11) hB
    have e12 := cell_blk (i := 12) hB
    have ef0 := free_blk (i := 0) hB
    have ef1 := free_blk (i := 1) hB
    have ef2 := free_blk (i := 2) hB
    have ef3 := free_blk (i := 3) hB
    have ef4 := free_blk (i := 4) hB
    have ef5 := free_blk (i := 5) hB
    have ef6 := free_blk (i := 6) hB
    have ef7 := free_blk (i := 7) hB
    have ef8 := free_blk (i := 8) hB
    have ef9 := free_blk (i := 9) hB
    have ef10 := free_blk (i := 10) hB
    have ef11 := free_blk (i := 11) hB
    have ef12 := free_blk (i := 12) hB
    simp at e0 e1 e2 e3 e4 e5 e6 e7 e8 e9 e10 e11 e12
    have hpe : Hid (Res (pMaybe E.ts x) s { x with all := false, sel := .zero } s) := by
      unfold Hid
      rw [← hxx.out]
      cases s with
      | bad _ _ _ => rfl
      | ok p => exact Res.of_ok (by have h2 : inW sidesW (tk E.ts p) = false := ha; simp only [pMaybe, h2, if_false, Bool.false_eq_true])
    clear hX hB ha
    go_wp2
    refine bodyPost_ret (v := .agg #[.int .u8 x.dof, .int .u8 x.side, .int .u8 (Ex.op x.n), .int .i64 (Ex.n x.n), .int .u8 (Ex.side x.n), .int .u8 (Ex.sel x.n).side, .int .u8 (Ex.sel x.n).zone, .int .u8 (Ex.sel x.n).kind, .slice va vn vc, .bool false, .int .u8 0, .int .u8 0, .int .u8 0]) (by simp [results, Tryz.results160, go_sem, e0, e1, e2, e3, e4, e5, e6, e7, e8, e9, e10, e11, e12]) rfl ?_
    exact ⟨false, .zero, s, rfl, hpe.out, (by repeat (first | (with_reducible exact GG.out) | (with_reducible refine RGoes.alloc ?_ _) | (with_reducible refine RGoes.drew ?_) | ((with_reducible refine RGoes.store ?_ HE.out ?_ _); rotate_left; focus (first | (simp; done) | (simp; omega) | omega))))⟩
  | true =>
    have hpe : Hid (∀ sl s', Res (pSel E.ts) s sl s' → Res (pMaybe E.ts x) s { x with all := true, sel := sl } s') := fun sl s' hr => by
      refine Res.congr (f := (pSel E.ts).map fun y => { x with all := true, sel := y }) (fun q hq => ?_) (Res.map _ hr)
      subst hq
      have h2 : inW sidesW (tk E.ts q) = true := ha
      simp only [pMaybe, h2, if_true]
    have hX := HX.out
    have cx0 := cell_blk (i := 0) hX
    have cx1 := cell_blk (i := 1) hX
    have cx2 := cell_blk (i := 2) hX
    have cx3 := cell_blk (i := 3) hX
    have cx4 := cell_blk (i := 4) hX
    have cx5 := cell_blk (i := 5) hX
    have cx6 := cell_blk (i := 6) hX
    have cx7 := cell_blk (i := 7) hX
    have cx8 := cell_blk (i := 8) hX
    have cx9 := cell_blk (i := 9) hX
    have cx10 := cell_blk (i := 10) hX
    have cx11 := cell_blk (i := 11) hX
    have cx12 := cell_blk (i := 12) hX
    have cxf0 := free_blk (i := 0) hX
    have cxf1 := free_blk (i := 1) hX
    have cxf2 := free_blk (i := 2) hX
    have cxf3 := free_blk (i := 3) hX
    have cxf4 := free_blk (i := 4) hX
    have cxf5 := free_blk (i := 5) hX
    have cxf6 := free_blk (i := 6) hX
    have cxf7 := free_blk (i := 7) hX
    have cxf8 := free_blk (i := 8) hX
    have cxf9 := free_blk (i := 9) hX
    have cxf10 := free_blk (i := 10) hX
    have cxf11 := free_blk (i := 11) hX
    have cxf12 := free_blk (i := 12) hX
    simp at cx0 cx1 cx2 cx3 cx4 cx5 cx6 cx7 cx8 cx9 cx10 cx11 cx12
    clear hX ha
    go_wp2_with fail
    refine (rsel_any E s _ (RGoes.rd (w := w) (by repeat (first | (with_reducible exact GG.out) | (with_reducible refine RGoes.alloc ?_ _) | (with_reducible refine RGoes.drew ?_) | ((with_reducible refine RGoes.store ?_ HE.out ?_ _); rotate_left; focus (first | (simp; done) | (simp; omega) | omega)))))).mono ?_
    rintro e w3 ⟨sl, s3, rfl, r3, g3⟩
    have hX : w3.heap[w.heap.size]? = some (.cells #[.int .u8 x.dof, .int .u8 x.side, .int .u8 (Ex.op x.n), .int .i64 (Ex.n x.n), .int .u8 (Ex.side x.n), .int .u8 (Ex.sel x.n).side, .int .u8 (Ex.sel x.n).zone, .int .u8 (Ex.sel x.n).kind, .slice va vn vc, .bool true, .int .u8 0, .int .u8 0, .int .u8 0] 58 (0, 0)) := by refine g3.kept.heap (by omega) ?_; exact heap_set_to HX.out rfl
    have hB : w3.heap[w.heap.size + 1]? = some (.cells #[.int .u8 0, .int .u8 0, .int .u8 0, .int .i64 0, .int .u8 0, .int .u8 0, .int .u8 0, .int .u8 0, .slice none 0 0, .bool false, .int .u8 0, .int .u8 0, .int .u8 0] 58 (0, 0)) := by refine g3.kept.heap (by omega) ?_; exact heap_other HB.out (by simp)
    replace GG := Lib.hid (RGoes.trans (w := w) (E := E) (s := s) (by repeat (first | (with_reducible exact GG.out) | (with_reducible refine RGoes.alloc ?_ _) | (with_reducible refine RGoes.drew ?_) | ((with_reducible refine RGoes.store ?_ HE.out ?_ _); rotate_left; focus (first | (simp; done) | (simp; omega) | omega)))) g3)
    have R3 := Lib.hid r3
    clear cx0 cx1 cx2 cx3 cx4 cx5 cx6 cx7 cx8 cx9 cx10 cx11 cx12 cxf0 cxf1 cxf2 cxf3 cxf4 cxf5 cxf6 cxf7 cxf8 cxf9 cxf10 cxf11 cxf12 r3 g3
    have cx0 := cell_blk (i := 0) hX
    have cx1 := cell_blk (i := 1) hX
    have cx2 := cell_blk (i := 2) hX
    have cx3 := cell_blk (i := 3) hX
    have cx4 := cell_blk (i := 4) hX
    have cx5 := cell_blk (i := 5) hX
    have cx6 := cell_blk (i := 6) hX
    have cx7 := cell_blk (i := 7) hX
    have cx8 := cell_blk (i := 8) hX
    have cx9 := cell_blk (i := 9) hX
    have cx10 := cell_blk (i := 10) hX
    have cx11 := cell_blk (i := 11) hX
    have cx12 := cell_blk (i := 12) hX
    have cxf0 := free_blk (i := 0) hX
    have cxf1 := free_blk (i := 1) hX
    have cxf2 := free_blk (i := 2) hX
    have cxf3 := free_blk (i := 3) hX
    have cxf4 := free_blk (i := 4) hX
    have cxf5 := free_blk (i := 5) hX
    have cxf6 := free_blk (i := 6) hX
    have cxf7 := free_blk (i := 7) hX
    have cxf8 := free_blk (i := 8) hX
    have cxf9 := free_blk (i := 9) hX
    have cxf10 := free_blk (i := 10) hX
    have cxf11 := free_blk (i := 11) hX
    have cxf12 := free_blk (i := 12) hX
    simp at cx0 cx1 cx2 cx3 cx4 cx5 cx6 cx7 cx8 cx9 cx10 cx11 cx12
    have e0 := cell_blk (i := 0) hB
    have e1 := cell_blk (i := 1) hB
    have e2 := cell_blk (i := 2) hB
    have e3 := cell_blk (i := 3) hB
    have e4 := cell_blk (i := 4) hB
    have e5 := cell_blk (i := 5) hB
    have e6 := cell_blk (i := 6) hB
    have e7 := cell_blk (i := 7) hB
    have e8 := cell_blk (i := 8) hB
    have e9 := cell_blk (i := 9) hB
    have e10 := cell_blk (i := 10) hB
    have e11 := cell_blk (i := 11) hB
    have e12 := cell_blk (i := 12) hB
    have ef0 := free_blk (i := 0) hB
    have ef1 := free_blk (i := 1) hB
    have ef2 := free_blk (i := 2) hB
    have ef3 := free_blk (i := 3) hB
    have ef4 := free_blk (i := 4) hB
    have ef5 := free_blk (i := 5) hB
    have ef6 := free_blk (i := 6) hB
    have ef7 := free_blk (i := 7) hB
    have ef8 := free_blk (i := 8) hB
    have ef9 := free_blk (i := 9) hB
    have ef10 := free_blk (i := 10) hB
    have ef11 := free_blk (i := 11) hB
    have ef12 := free_blk (i := 12) hB
    simp at e0 e1 e2 e3 e4 e5 e6 e7 e8 e9 e10 e11 e12
    clear hX hB
    go_wp2
    refine bodyPost_ret (v := .agg #[.int .u8 x.dof, .int .u8 x.side, .int .u8 (Ex.op x.n), .int .i64 (Ex.n x.n), .int .u8 (Ex.side x.n), .int .u8 (Ex.sel x.n).side, .int .u8 (Ex.sel x.n).zone, .int .u8 (Ex.sel x.n).kind, .slice va vn vc, .bool true, .int .u8 (Sl.side sl), .int .u8 (Sl.zone sl), .int .u8 (Sl.kind sl)]) (by simp [results, Tryz.results160, go_sem, e0, e1, e2, e3, e4, e5, e6, e7, e8, e9, e10, e11, e12]) rfl ?_
    exact ⟨true, sl, s3, rfl, hpe.out _ _ R3.out, (by repeat (first | (with_reducible exact GG.out) | (with_reducible refine RGoes.alloc ?_ _) | (with_reducible refine RGoes.drew ?_) | ((with_reducible refine RGoes.store ?_ HE.out ?_ _); rotate_left; focus (first | (simp; done) | (simp; omega) | omega))))⟩

end Go.Proofs.YtmhpopkbmnhkkaaGreatDoor
