import Derived.Test.YtmhpopkbmnhkkaaGreatDoorQParB
import Derived.Deep.RegionLaw
/- Layer 2 (parse): what stands in parentheses, one deeper. -/
namespace Go.Proofs.YtmhpopkbmnhkkaaGreatDoor
open Go.RowKit Go.Lib

/-- Another depth is written. -/
theorem Goes.depth {w W : World} {E : Env} {s : RS} {d : Int} (g : Goes w E s d W) (h : EnvAt w E ∧ E.R < w.heap.size) (d' : Int) : Goes w E s d' (W.setCell ⟨E.R, 2, none⟩ (.int .i64 d')) := by
  have k := g.kept.setCell (p := ⟨E.R, 2, none⟩) (.inl rfl) (.int .i64 d')
  refine ⟨⟨h.1.kept k, ?_, g.rd.fits⟩, k⟩
  exact heap_set_to g.rd.rd rfl

/-- One more of an expression's parts. -/
theorem ex_more {k R X g cap b : Nat} {Wb w5 w6 : World} {v u : Value} {xs : List Ex} {css : List (List Value)} {x1 : Ex} {va : Option Addr} {vn vc : Nat} (hR : R < X) (hX : X < Wb.heap.size)
    (hrow : RowOf Wb (From (X + 1)) 46 7 (ExAt k) v xs css) (k3 : Kept R Wb w5) (hx1 : ExAt k w5 (From Wb.heap.size) (exV x1 (.slice va vn vc)) x1)
    (hown : w6.ownsRow b 46 7 (.slice (some ⟨g, 0, none⟩) (xs.length + 1) cap) (xs.length + 1) (css.flatten ++ exV x1 (.slice va vn vc)))
    (hgr : (w5.alloc (.cells (exV x1 (.slice va vn vc)).toArray 46)).grownBy w6 v.ownBlock) (hat : v.ownBlock = some g ∨ g = w5.heap.size + 1) :
    RowOf (w6.setCell ⟨X, 6, none⟩ u) (From (X + 1)) 46 7 (ExAt k) (.slice (some ⟨g, 0, none⟩) (xs.length + 1) cap) (xs ++ [x1]) (css ++ [exV x1 (.slice va vn vc)]) := by
  have hown0 := hrow.own
  have h5 : RowOf (w5.alloc (.cells (exV x1 (.slice va vn vc)).toArray 46)) (From (X + 1)) 46 7 (ExAt k) v xs css :=
    hrow.frame (ExAt.frames k) fun i hi hl => ⟨hi, (Below.heap_alloc _ _ _ (Nat.lt_of_lt_of_le hl k3.size)).trans (k3.block i hl (by unfold From at hi; omega))⟩
  have h6 := RowOf.snoc (ExAt.frames k) h5 (x := x1) (c := exV x1 (.slice va vn vc)) (Sx := From Wb.heap.size) rfl (by simp [exV, Value.oneCell'])
    (ExAt.frames k _ _ _ _ _ _ hx1 fun i hi hl => ⟨hi, Below.heap_alloc _ _ _ hl⟩) (fun i hi _ => ⟨by unfold From at *; omega, fun e => by have := (hown0.lt i e).2; unfold From at hi; omega⟩) (H := w5.heap.size + 1) (by simp) (by have := k3.size; unfold From; omega) hown hgr hat
  exact h6.frame (ExAt.frames k) fun i hi hl => ⟨hi, heap_set_far (by unfold From at hi; simp; omega) u⟩

/-- Behind the parts that were read. -/
def Nest (E : Env) (k : Nat) (d : Int) (w : World) (X q n : Nat) (p : List Ex → RS → Prop) (wx : World) : Prop := ∃ (xs : List Ex) (s3 : RS) (g cap : Nat), p xs s3 ∧ xs.length = n ∧ Goes w E s3 d wx ∧ wx.heap[w.heap.size]? = some (.cells #[.int .u8 0, .int .i64 0, .int .u8 0, .int .u8 0, .int .u8 0, .int .u8 0, .slice none 0 0] 46 (0, 0)) ∧
  wx.heap[X]? = some (.cells #[.int .u8 q, .int .i64 0, .int .u8 0, .int .u8 0, .int .u8 0, .int .u8 0, .slice (some ⟨g, 0, none⟩) n cap] 46 (0, 0)) ∧ RowAt wx (From (X + 1)) 46 7 (ExAt k) (.slice (some ⟨g, 0, none⟩) n cap) xs
def One (ts : List Tok) (k : Nat) (s2 : RS) (xs : List Ex) (s3 : RS) : Prop := ∃ x, xs = [x] ∧ Res (pExpr ts k) s2 x s3

theorem nest_step {E : Env} {s2 s3 : RS} {d : Int} {k X q g cap b : Nat} {w Wb w5 w6 : World} {v : Value} {xs : List Ex} {css : List (List Value)} {x1 : Ex} {va : Option Addr} {vn vc : Nat} (HE : EnvAt w E ∧ E.R < w.heap.size) (hBX : w.heap.size < X)
    (gW : Goes w E s2 d Wb) (g3 : Goes Wb E s3 d w5) (hB : Wb.heap[w.heap.size]? = some (.cells #[.int .u8 0, .int .i64 0, .int .u8 0, .int .u8 0, .int .u8 0, .int .u8 0, .slice none 0 0] 46 (0, 0))) (hX : Wb.heap[X]? = some (.cells #[.int .u8 q, .int .i64 0, .int .u8 0, .int .u8 0, .int .u8 0, .int .u8 0, v] 46 (0, 0)))
    (hrow : RowOf Wb (From (X + 1)) 46 7 (ExAt k) v xs css) (hx1 : ExAt k w5 (From Wb.heap.size) (exV x1 (.slice va vn vc)) x1)
    (hown : w6.ownsRow b 46 7 (.slice (some ⟨g, 0, none⟩) (xs.length + 1) cap) (xs.length + 1) (css.flatten ++ exV x1 (.slice va vn vc)))
    (hgr : (w5.alloc (.cells (exV x1 (.slice va vn vc)).toArray 46)).grownBy w6 v.ownBlock) (hat : v.ownBlock = some g ∨ g = (w5.alloc (.cells (exV x1 (.slice va vn vc)).toArray 46)).heap.size) :
    Goes w E s3 d (w6.setCell ⟨X, 6, none⟩ (.slice (some ⟨g, 0, none⟩) (xs.length + 1) cap)) ∧ (w6.setCell ⟨X, 6, none⟩ (.slice (some ⟨g, 0, none⟩) (xs.length + 1) cap)).heap[w.heap.size]? = some (.cells #[.int .u8 0, .int .i64 0, .int .u8 0, .int .u8 0, .int .u8 0, .int .u8 0, .slice none 0 0] 46 (0, 0)) ∧
    (w6.setCell ⟨X, 6, none⟩ (.slice (some ⟨g, 0, none⟩) (xs.length + 1) cap)).heap[X]? = some (.cells #[.int .u8 q, .int .i64 0, .int .u8 0, .int .u8 0, .int .u8 0, .int .u8 0, .slice (some ⟨g, 0, none⟩) (xs.length + 1) cap] 46 (0, 0)) ∧
    RowAt (w6.setCell ⟨X, 6, none⟩ (.slice (some ⟨g, 0, none⟩) (xs.length + 1) cap)) (From (X + 1)) 46 7 (ExAt k) (.slice (some ⟨g, 0, none⟩) (xs.length + 1) cap) (xs ++ [x1]) := by
  have hR : E.R < w.heap.size := HE.2
  have hbk : ∀ i, v.ownBlock = some i → X + 1 ≤ i := fun i hi => hrow.blk i hi
  have g5 := (gW.trans g3).alloc (.cells (exV x1 (.slice va vn vc)).toArray 46)
  have g6 := g5.grown HE hgr (fun i hi => by have := hbk i hi; omega)
  have hB5 := g3.kept.heap (by omega) hB
  have hX5 := g3.kept.heap (by omega) hX
  have hB6 := (hgr.block w.heap.size (by have := heap_lt hB5; simp; omega) (fun e => by have := hbk _ e.symm; omega)).trans (heap_old hB5)
  have hX6 := (hgr.block X (by have := heap_lt hX5; simp; omega) (fun e => by have := hbk _ e.symm; omega)).trans (heap_old hX5)
  exact ⟨g6.store HE (by simp; omega) _, heap_other hB6 (by simp; omega), heap_set_to hX6 rfl, _, ex_more (by omega) (heap_lt hX) hrow g3.kept hx1 hown hgr (hat.imp id fun e => by rw [e]; simp)⟩

set_option maxHeartbeats 4000000 in
set_option maxRecDepth 100000 in
theorem nested_succ (k : Nat) (ih : ExprSaid k) : NestedSaid (k + 1) := by
  intro E s d w hd h
  obtain ⟨-, -, c2, -, -, -⟩ := h.cells
  have f2 := h.free 2
  have HE := Lib.hid h.both
  have GG := Lib.hid (Goes.start h)
  have hlt := h.lt
  have HI := Lib.hid ih
  obtain ⟨i0, hi0, hz0, hz1, hz2⟩ := info_parts Tryz.exprInfo
  have hd5 : d + 2 ≤ 6 := by omega
  have hd0 : 0 ≤ d := hd.1
  have HD : Hid (0 ≤ d + 1 ∧ d + 1 + (k : Int) = 5) := by unfold Hid; omega
  clear h hd ih
  go_enter Tryz.func79, Tryz.ntmps79
  go_wp2_with fail
  refine (mark_any E s d _ ⟨#[40]⟩ (by decide) (Goes.rd (w := w) (by repeat (first | (with_reducible exact GG.out) | (with_reducible refine Goes.alloc ?_ _) | (with_reducible refine Goes.drew ?_) | ((with_reducible refine Goes.store ?_ HE.out ?_ _); rotate_left; focus (first | (simp; done) | (simp; omega) | omega)))))).mono ?_
  rintro e w1 ⟨rfl, s1, r1, g1⟩
  have HB : Hid (w1.heap[w.heap.size]? = some (.cells #[.int .u8 0, .int .i64 0, .int .u8 0, .int .u8 0, .int .u8 0, .int .u8 0, .slice none 0 0] 46 (0, 0))) := by refine g1.kept.heap (by omega) ?_; exact (by repeat (first | (with_reducible exact HB.out) | (with_reducible exact heap_alloc_new _ _) | (with_reducible refine heap_old ?_) | (with_reducible refine heap_drew ?_) | ((with_reducible refine heap_other ?_ ?_); rotate_left; focus (first | (simp; done) | (simp; omega) | omega))))
  have GG := Lib.hid (Goes.trans (w := w) (E := E) (s := s) (d := d) (by repeat (first | (with_reducible exact GG.out) | (with_reducible refine Goes.alloc ?_ _) | (with_reducible refine Goes.drew ?_) | ((with_reducible refine Goes.store ?_ HE.out ?_ _); rotate_left; focus (first | (simp; done) | (simp; omega) | omega)))) g1)
  have sz1 : w.heap.size < w1.heap.size := heap_lt HB.out
  obtain ⟨-, -, d2, -, -, -⟩ := g1.rd.cells
  have df2 := g1.rd.free 2
  have R1 := Lib.hid r1
  clear r1 g1
  have GG := Lib.hid (Goes.depth GG.out HE.out (d + 1))
  have HB : Hid ((w1.setCell ⟨E.R, 2, none⟩ (.int .i64 (d + 1))).heap[w.heap.size]? = some (.cells #[.int .u8 0, .int .i64 0, .int .u8 0, .int .u8 0, .int .u8 0, .int .u8 0, .slice none 0 0] 46 (0, 0))) := heap_other HB.out (by simp; omega)
  go_wp2_with fail
  refine (oneOf_any E s1 (d + 1) _ _ opsW wordy_ops (words_ops _ E.R _ (by simp) (by omega)) (Goes.rd (w := w) (by repeat (first | (with_reducible exact GG.out) | (with_reducible refine Goes.alloc ?_ _) | (with_reducible refine Goes.drew ?_) | ((with_reducible refine Goes.store ?_ HE.out ?_ _); rotate_left; focus (first | (simp; done) | (simp; omega) | omega)))))).mono ?_
  rintro e w2 ⟨o, s2, rfl, r2, l2, g2⟩
  have HB : Hid (w2.heap[w.heap.size]? = some (.cells #[.int .u8 0, .int .i64 0, .int .u8 0, .int .u8 0, .int .u8 0, .int .u8 0, .slice none 0 0] 46 (0, 0))) := by refine g2.kept.heap (by omega) ?_; exact (by repeat (first | (with_reducible exact HB.out) | (with_reducible exact heap_alloc_new _ _) | (with_reducible refine heap_old ?_) | (with_reducible refine heap_drew ?_) | ((with_reducible refine heap_other ?_ ?_); rotate_left; focus (first | (simp; done) | (simp; omega) | omega))))
  have GG := Lib.hid (Goes.trans (w := w) (E := E) (s := s1) (d := d + 1) (by repeat (first | (with_reducible exact GG.out) | (with_reducible refine Goes.alloc ?_ _) | (with_reducible refine Goes.drew ?_) | ((with_reducible refine Goes.store ?_ HE.out ?_ _); rotate_left; focus (first | (simp; done) | (simp; omega) | omega)))) g2)
  have sz2 : w1.heap.size < w2.heap.size := by have := g2.kept.size; simp at this; omega
  have ho : o < 8 := l2
  have ho1 : (o : Int) ≤ 7 := by omega
  have ho0 : (0 : Int) ≤ (o : Int) := by omega
  have R2 := Lib.hid r2
  clear r2 l2 g2
  go_upto_region 7 with fail
  obtain ⟨q, hq⟩ : ∃ q : Nat, q = 4 + o := ⟨_, rfl⟩
  rw [show (4 : Int) + (o : Int) = (q : Int) from by omega]
  have HQ := Lib.hid hq
  clear hq
  have HX := Lib.hid (heap_alloc_new w2 (.cells #[.int .u8 q, .int .i64 0, .int .u8 0, .int .u8 0, .int .u8 0, .int .u8 0, .slice none 0 0] 46))
  have cX : (w2.alloc (.cells #[.int .u8 q, .int .i64 0, .int .u8 0, .int .u8 0, .int .u8 0, .int .u8 0, .slice none 0 0] 46)).cell? ⟨w2.heap.size, 6, none⟩ = some (.slice none 0 0) := by rw [cell_blk HX.out]; rfl
  have fX : (w2.alloc (.cells #[.int .u8 q, .int .i64 0, .int .u8 0, .int .u8 0, .int .u8 0, .int .u8 0, .slice none 0 0] 46)).frozen? ⟨w2.heap.size, 6, none⟩ = false := free_blk HX.out
  go_cut [29] (fun s29 wx => Nest E k (d + 1) w w2.heap.size q 1 (One E.ts k s2) wx)
  case first =>
    go_region_law (first
        | (refine step_append_lies _ (by rfl) _ _ _ (by rfl) (w2.heap.size + 1) 46 i0 _ 7 48 Tryz.underlying31 hi0 hz0 hz1 hz2 rfl (by omega) _ 0 [] (by rfl) (World.ownsRow_nil _ _ _ _) ⟨w5.heap.size, 0, none⟩ 1 1 (exV x1 (.slice va1 vn1 vc1)) (by rfl) (by rfl) (World.news_of_block (cs := (exV x1 (.slice va1 vn1 vc1)).toArray) (t := 46) (fr := (0, 0)) (heap_alloc_new _ _)) (by simp [exV, Value.oneCell']) (by omega) (by decide) (by omega) (by have := heap_lt hX5; simp; omega) _ rfl ?_; intro g cap w6 hown6 hgrow6 hat6 hlt6; have hgr6 : World.grownBy _ w6 none := hgrow6; have hX6 : w6.heap[w2.heap.size]? = some (.cells #[.int .u8 q, .int .i64 0, .int .u8 0, .int .u8 0, .int .u8 0, .int .u8 0, .slice none 0 0] 46 (0, 0)) := (hgr6.block _ (by have := heap_lt hX5; simp; omega) (by simp)).trans (heap_old hX5); have cX6 : w6.cell? ⟨w2.heap.size, 6, none⟩ = some (.slice none 0 0) := (by rw [cell_blk hX6]; rfl); have fX6 : w6.frozen? ⟨w2.heap.size, 6, none⟩ = false := free_blk hX6)
        | (go_simp; go_at_call 42; refine (HI.out E s2 (d + 1) _ HD.out (Goes.rd (w := w) (by repeat (first | (with_reducible exact GG.out) | (with_reducible refine Goes.alloc ?_ _) | (with_reducible refine Goes.drew ?_) | ((with_reducible refine Goes.store ?_ HE.out ?_ _); rotate_left; focus (first | (simp; done) | (simp; omega) | omega)))))).mono ?_; rintro e w5 ⟨x1, va1, vn1, vc1, s3, rfl, hx1, r3, g3⟩;
           have hX5 : w5.heap[w2.heap.size]? = some (.cells #[.int .u8 q, .int .i64 0, .int .u8 0, .int .u8 0, .int .u8 0, .int .u8 0, .slice none 0 0] 46 (0, 0)) := (by refine g3.kept.heap (by omega) ?_; exact (by repeat (first | (with_reducible exact HX.out) | (with_reducible exact heap_alloc_new _ _) | (with_reducible refine heap_old ?_) | (with_reducible refine heap_drew ?_) | ((with_reducible refine heap_other ?_ ?_); rotate_left; focus (first | (simp; done) | (simp; omega) | omega)))));
           have cX5 : w5.cell? ⟨w2.heap.size, 6, none⟩ = some (.slice none 0 0) := (by rw [cell_blk hX5]; rfl); have lX5 : w2.heap.size < w5.heap.size := heap_lt hX5; have nX5 : w2.heap.size ≠ w5.heap.size := Nat.ne_of_lt lX5))

    all_goals
      go_wp2_with fail
      go_meet
      exact ⟨[x1], s3, g, cap, ⟨x1, rfl, r3⟩, rfl, nest_step (s2 := s2) (v := .slice none 0 0) (xs := []) (css := []) (d := d + 1) HE.out (by omega) (by repeat (first | (with_reducible exact GG.out) | (with_reducible refine Goes.alloc ?_ _) | (with_reducible refine Goes.drew ?_) | ((with_reducible refine Goes.store ?_ HE.out ?_ _); rotate_left; focus (first | (simp; done) | (simp; omega) | omega)))) g3 (by repeat (first | (with_reducible exact HB.out) | (with_reducible exact heap_alloc_new _ _) | (with_reducible refine heap_old ?_) | (with_reducible refine heap_drew ?_) | ((with_reducible refine heap_other ?_ ?_); rotate_left; focus (first | (simp; done) | (simp; omega) | omega)))) (by repeat (first | (with_reducible exact HX.out) | (with_reducible exact heap_alloc_new _ _) | (with_reducible refine heap_old ?_) | (with_reducible refine heap_drew ?_) | ((with_reducible refine heap_other ?_ ?_); rotate_left; focus (first | (simp; done) | (simp; omega) | omega)))) (RowOf.nil _ _ _ _ _) hx1 hown6 hgr6 hat6⟩
  case rest =>
    obtain ⟨xs, s3, g, cap, ⟨x1, rfl, r3⟩, -, gg, hB, hX, hr⟩ := hcut
    have R3 := Lib.hid r3
    clear r3
    by_cases h7 : o = 7
    · have q11 : q = 11 := by rw [HQ.out, h7]
      subst q11
      have cx0 := cell_blk (i := 0) hX
      have cx1 := cell_blk (i := 1) hX
      have cx2 := cell_blk (i := 2) hX
      have cx3 := cell_blk (i := 3) hX
      have cx4 := cell_blk (i := 4) hX
      have cx5 := cell_blk (i := 5) hX
      have cx6 := cell_blk (i := 6) hX
      have cxf0 := free_blk (i := 0) hX
      have cxf1 := free_blk (i := 1) hX
      have cxf2 := free_blk (i := 2) hX
      have cxf3 := free_blk (i := 3) hX
      have cxf4 := free_blk (i := 4) hX
      have cxf5 := free_blk (i := 5) hX
      have cxf6 := free_blk (i := 6) hX
      simp at cx0 cx1 cx2 cx3 cx4 cx5 cx6
      have X0 := Lib.hid hX
      have HX := X0
      have HB := Lib.hid hB
      have GG := Lib.hid gg
      obtain ⟨-, -, dd2, -, -, -⟩ := gg.rd.cells
      have ddf2 := gg.rd.free 2
      have sz4 : w2.heap.size < wc.heap.size := heap_lt hX
      clear hB hX gg
      go_wp2_with fail
      have GG := Lib.hid (Goes.depth GG.out HE.out d)
      have HB : Hid ((wc.setCell ⟨E.R, 2, none⟩ (.int .i64 d)).heap[w.heap.size]? = some (.cells #[.int .u8 0, .int .i64 0, .int .u8 0, .int .u8 0, .int .u8 0, .int .u8 0, .slice none 0 0] 46 (0, 0))) := heap_other HB.out (by simp; omega)
      have HX : Hid ((wc.setCell ⟨E.R, 2, none⟩ (.int .i64 d)).heap[w2.heap.size]? = some (.cells #[.int .u8 11, .int .i64 0, .int .u8 0, .int .u8 0, .int .u8 0, .int .u8 0, .slice (some ⟨g, 0, none⟩) 1 cap] 46 (0, 0))) := heap_other HX.out (by simp; omega)
      refine (mark_any E s3 d _ ⟨#[41]⟩ (by decide) (Goes.rd (w := w) (by repeat (first | (with_reducible exact GG.out) | (with_reducible refine Goes.alloc ?_ _) | (with_reducible refine Goes.drew ?_) | ((with_reducible refine Goes.store ?_ HE.out ?_ _); rotate_left; focus (first | (simp; done) | (simp; omega) | omega)))))).mono ?_
      rintro e w8 ⟨rfl, s8, r8, g8⟩
      have hB8 := g8.kept.heap (k := w.heap.size) (by omega) HB.out
      have hX8 := g8.kept.heap (k := w2.heap.size) (by omega) HX.out
      have e0 := cell_blk (i := 0) hB8
      have e1 := cell_blk (i := 1) hB8
      have e2 := cell_blk (i := 2) hB8
      have e3 := cell_blk (i := 3) hB8
      have e4 := cell_blk (i := 4) hB8
      have e5 := cell_blk (i := 5) hB8
      have e6 := cell_blk (i := 6) hB8
      have ef0 := free_blk (i := 0) hB8
      have ef1 := free_blk (i := 1) hB8
      have ef2 := free_blk (i := 2) hB8
      have ef3 := free_blk (i := 3) hB8
      have ef4 := free_blk (i := 4) hB8
      have ef5 := free_blk (i := 5) hB8
      have ef6 := free_blk (i := 6) hB8
      simp at e0 e1 e2 e3 e4 e5 e6
      have cy0 := cell_blk (i := 0) hX8
      have cy1 := cell_blk (i := 1) hX8
      have cy2 := cell_blk (i := 2) hX8
      have cy3 := cell_blk (i := 3) hX8
      have cy4 := cell_blk (i := 4) hX8
      have cy5 := cell_blk (i := 5) hX8
      have cy6 := cell_blk (i := 6) hX8
      have cyf0 := free_blk (i := 0) hX8
      have cyf1 := free_blk (i := 1) hX8
      have cyf2 := free_blk (i := 2) hX8
      have cyf3 := free_blk (i := 3) hX8
      have cyf4 := free_blk (i := 4) hX8
      have cyf5 := free_blk (i := 5) hX8
      have cyf6 := free_blk (i := 6) hX8
      simp at cy0 cy1 cy2 cy3 cy4 cy5 cy6
      have sz8 : w2.heap.size < w8.heap.size := heap_lt hX8
      have HR := Lib.hid (row_above (B' := w2.heap.size + 1) (w' := w8) (ExAt.frames k) hr (((Above.refl _ _).setCell (by simp; omega) _).kept g8.kept (by omega)) (Nat.le_refl _))
      have GG := Lib.hid (Goes.trans (w := w) (E := E) (s := s3) (d := d) (by repeat (first | (with_reducible exact GG.out) | (with_reducible refine Goes.alloc ?_ _) | (with_reducible refine Goes.drew ?_) | ((with_reducible refine Goes.store ?_ HE.out ?_ _); rotate_left; focus (first | (simp; done) | (simp; omega) | omega)))) g8)
      have R8 := Lib.hid r8
      clear r8 g8 hB8 hX8 hr
      go_wp2
      refine bodyPost_ret (v := .agg #[.int .u8 11, .int .i64 0, .int .u8 0, .int .u8 0, .int .u8 0, .int .u8 0, .slice (some ⟨g, 0, none⟩) 1 cap]) (by simp [results, Tryz.results79, go_sem, e0, e1, e2, e3, e4, e5, e6]) rfl ?_
      refine ⟨.mk 11 0 0 .zero [x1], some ⟨g, 0, none⟩, 1, cap, s8, rfl, ⟨_, rfl, row_above (w := w8) (B := w2.heap.size + 1) (B' := w.heap.size) (ExAt.frames k) HR.out (by repeat (first | (with_reducible exact Above.refl _ _) | (with_reducible refine Above.alloc ?_ _) | (with_reducible refine Above.drew ?_) | ((with_reducible refine Above.setCell ?_ ?_ _); rotate_left; focus (first | (simp; done) | (simp; omega) | omega)))) (by omega)⟩, ?_, (by repeat (first | (with_reducible exact GG.out) | (with_reducible refine Goes.alloc ?_ _) | (with_reducible refine Goes.drew ?_) | ((with_reducible refine Goes.store ?_ HE.out ?_ _); rotate_left; focus (first | (simp; done) | (simp; omega) | omega))))⟩
      rw [show Ex.mk 11 0 0 .zero [x1] = Ex.mk (4 + o) 0 0 .zero [x1] by rw [h7]]
      exact Res.bind R1.out (Res.bind R2.out (Res.bind (Res.bind R3.out (by rw [if_pos h7]; exact Res.pure _ _)) (Res.map _ R8.out)))
    · have q11 : ((q : Int) != 11) = true := by rw [HQ.out]; simp; omega
      have cx0 := cell_blk (i := 0) hX
      have cx1 := cell_blk (i := 1) hX
      have cx2 := cell_blk (i := 2) hX
      have cx3 := cell_blk (i := 3) hX
      have cx4 := cell_blk (i := 4) hX
      have cx5 := cell_blk (i := 5) hX
      have cx6 := cell_blk (i := 6) hX
      have cxf0 := free_blk (i := 0) hX
      have cxf1 := free_blk (i := 1) hX
      have cxf2 := free_blk (i := 2) hX
      have cxf3 := free_blk (i := 3) hX
      have cxf4 := free_blk (i := 4) hX
      have cxf5 := free_blk (i := 5) hX
      have cxf6 := free_blk (i := 6) hX
      simp at cx0 cx1 cx2 cx3 cx4 cx5 cx6
      have X0 := Lib.hid hX
      have HX := X0
      have HB := Lib.hid hB
      have GG := Lib.hid gg
      obtain ⟨-, -, dd2, -, -, -⟩ := gg.rd.cells
      have ddf2 := gg.rd.free 2
      have sz4 : w2.heap.size < wc.heap.size := heap_lt hX
      clear hB hX gg
      go_upto_region 9 with fail
      obtain ⟨css, hrow⟩ := hr
      have hgX : w2.heap.size + 1 ≤ g := hrow.blk g rfl
      have HRow := Lib.hid hrow
      clear hrow
      go_cut [39] (fun s39 wx => Nest E k (d + 1) w w2.heap.size q 2 (fun xs s4 => Res (pArgs (pExpr E.ts k) o) s2 xs s4) wx)
      case first =>
        go_region_law (first
            | (refine step_append_lies _ (by rfl) _ _ _ (by rfl) 0 46 i0 _ 7 48 Tryz.underlying31 hi0 hz0 hz1 hz2 rfl (by omega) _ 1 css.flatten (by rfl) (ownsRow_base (ownsRow_same (b := 0) HRow.out.own (fun i hi => (Below.heap_alloc _ _ _ (by have := (HRow.out.own.lt i hi).2; have := g4.kept.size; simp at this; omega)).trans (g4.kept.block i (by have := (HRow.out.own.lt i hi).2; simpa using this) (by have := HRow.out.blk i hi; unfold From at this; omega)))) (Nat.le_refl _)) ⟨w5.heap.size, 0, none⟩ 1 1 (exV x2 (.slice va1 vn1 vc1)) (by rfl) (by rfl) (World.news_of_block (cs := (exV x2 (.slice va1 vn1 vc1)).toArray) (t := 46) (fr := (0, 0)) (heap_alloc_new _ _)) (by simp [exV, Value.oneCell']) (by omega) (by decide) (by omega) (Nat.zero_le _) _ rfl ?_; intro g6 cap6 w6 hown6 hgrow6 hat6 hlt6; have hgr6 : World.grownBy _ w6 (some g) := hgrow6; have hX6 : w6.heap[w2.heap.size]? = some (.cells #[.int .u8 q, .int .i64 0, .int .u8 0, .int .u8 0, .int .u8 0, .int .u8 0, .slice (some ⟨g, 0, none⟩) 1 cap] 46 (0, 0)) := (hgr6.block _ (by have := heap_lt hX5; simp; omega) (by have := hgX; simp; omega)).trans (heap_old hX5); have cX6 : w6.cell? ⟨w2.heap.size, 6, none⟩ = some (.slice (some ⟨g, 0, none⟩) 1 cap) := (by rw [cell_blk hX6]; rfl); have fX6 : w6.frozen? ⟨w2.heap.size, 6, none⟩ = false := free_blk hX6)
            | (go_simp; go_at_call 42; refine (HI.out E s3 (d + 1) _ HD.out (Goes.rd (w := w) (by repeat (first | (with_reducible exact GG.out) | (with_reducible refine Goes.alloc ?_ _) | (with_reducible refine Goes.drew ?_) | ((with_reducible refine Goes.store ?_ HE.out ?_ _); rotate_left; focus (first | (simp; done) | (simp; omega) | omega)))))).mono ?_; rintro e w5 ⟨x2, va1, vn1, vc1, s4, rfl, hx1, r4, g4⟩;
               have hX5 : w5.heap[w2.heap.size]? = some (.cells #[.int .u8 q, .int .i64 0, .int .u8 0, .int .u8 0, .int .u8 0, .int .u8 0, .slice (some ⟨g, 0, none⟩) 1 cap] 46 (0, 0)) := (by refine g4.kept.heap (by omega) ?_; exact (by repeat (first | (with_reducible exact HX.out) | (with_reducible exact heap_alloc_new _ _) | (with_reducible refine heap_old ?_) | (with_reducible refine heap_drew ?_) | ((with_reducible refine heap_other ?_ ?_); rotate_left; focus (first | (simp; done) | (simp; omega) | omega)))));
               have cX5 : w5.cell? ⟨w2.heap.size, 6, none⟩ = some (.slice (some ⟨g, 0, none⟩) 1 cap) := (by rw [cell_blk hX5]; rfl); have lX5 : w2.heap.size < w5.heap.size := heap_lt hX5; have nX5 : w2.heap.size ≠ w5.heap.size := Nat.ne_of_lt lX5))

        all_goals
          go_wp2_with fail
          go_meet
          exact ⟨[x1, x2], s4, g6, cap6, Res.bind R3.out (by rw [if_neg h7]; exact Res.map _ r4), rfl, nest_step (s2 := s3) (v := .slice (some ⟨g, 0, none⟩) 1 cap) (xs := [x1]) (css := css) (d := d + 1) HE.out (by omega) (by repeat (first | (with_reducible exact GG.out) | (with_reducible refine Goes.alloc ?_ _) | (with_reducible refine Goes.drew ?_) | ((with_reducible refine Goes.store ?_ HE.out ?_ _); rotate_left; focus (first | (simp; done) | (simp; omega) | omega)))) g4 (by repeat (first | (with_reducible exact HB.out) | (with_reducible exact heap_alloc_new _ _) | (with_reducible refine heap_old ?_) | (with_reducible refine heap_drew ?_) | ((with_reducible refine heap_other ?_ ?_); rotate_left; focus (first | (simp; done) | (simp; omega) | omega)))) (by repeat (first | (with_reducible exact HX.out) | (with_reducible exact heap_alloc_new _ _) | (with_reducible refine heap_old ?_) | (with_reducible refine heap_drew ?_) | ((with_reducible refine heap_other ?_ ?_); rotate_left; focus (first | (simp; done) | (simp; omega) | omega)))) (HRow.out.frame (ExAt.frames k) fun i hi _ => ⟨hi, rfl⟩) hx1 hown6 hgr6 hat6⟩
      case rest =>
        clear cx0 cx1 cx2 cx3 cx4 cx5 cx6 cxf0 cxf1 cxf2 cxf3 cxf4 cxf5 cxf6 dd2 ddf2 HX HB GG HRow X0 q11
        obtain ⟨ys, s4, g9, cap9, r4, -, gg, hB, hX, hr⟩ := hcut
        have R4 := Lib.hid r4
        clear r4
        have cx0 := cell_blk (i := 0) hX
        have cx1 := cell_blk (i := 1) hX
        have cx2 := cell_blk (i := 2) hX
        have cx3 := cell_blk (i := 3) hX
        have cx4 := cell_blk (i := 4) hX
        have cx5 := cell_blk (i := 5) hX
        have cx6 := cell_blk (i := 6) hX
        have cxf0 := free_blk (i := 0) hX
        have cxf1 := free_blk (i := 1) hX
        have cxf2 := free_blk (i := 2) hX
        have cxf3 := free_blk (i := 3) hX
        have cxf4 := free_blk (i := 4) hX
        have cxf5 := free_blk (i := 5) hX
        have cxf6 := free_blk (i := 6) hX
        simp at cx0 cx1 cx2 cx3 cx4 cx5 cx6
        have HX := Lib.hid hX
        have HB := Lib.hid hB
        have GG := Lib.hid gg
        obtain ⟨-, -, dd2, -, -, -⟩ := gg.rd.cells
        have ddf2 := gg.rd.free 2
        have sz9 : w2.heap.size < wc.heap.size := heap_lt hX
        clear hB hX gg
        go_wp2_with fail
        have GG := Lib.hid (Goes.depth GG.out HE.out d)
        have HB : Hid ((wc.setCell ⟨E.R, 2, none⟩ (.int .i64 d)).heap[w.heap.size]? = some (.cells #[.int .u8 0, .int .i64 0, .int .u8 0, .int .u8 0, .int .u8 0, .int .u8 0, .slice none 0 0] 46 (0, 0))) := heap_other HB.out (by simp; omega)
        have HX : Hid ((wc.setCell ⟨E.R, 2, none⟩ (.int .i64 d)).heap[w2.heap.size]? = some (.cells #[.int .u8 q, .int .i64 0, .int .u8 0, .int .u8 0, .int .u8 0, .int .u8 0, .slice (some ⟨g9, 0, none⟩) 2 cap9] 46 (0, 0))) := heap_other HX.out (by simp; omega)
        refine (mark_any E s4 d _ ⟨#[41]⟩ (by decide) (Goes.rd (w := w) (by repeat (first | (with_reducible exact GG.out) | (with_reducible refine Goes.alloc ?_ _) | (with_reducible refine Goes.drew ?_) | ((with_reducible refine Goes.store ?_ HE.out ?_ _); rotate_left; focus (first | (simp; done) | (simp; omega) | omega)))))).mono ?_
        rintro e w8 ⟨rfl, s8, r8, g8⟩
        have hB8 := g8.kept.heap (k := w.heap.size) (by omega) HB.out
        have hX8 := g8.kept.heap (k := w2.heap.size) (by omega) HX.out
        have e0 := cell_blk (i := 0) hB8
        have e1 := cell_blk (i := 1) hB8
        have e2 := cell_blk (i := 2) hB8
        have e3 := cell_blk (i := 3) hB8
        have e4 := cell_blk (i := 4) hB8
        have e5 := cell_blk (i := 5) hB8
        have e6 := cell_blk (i := 6) hB8
        have ef0 := free_blk (i := 0) hB8
        have ef1 := free_blk (i := 1) hB8
        have ef2 := free_blk (i := 2) hB8
        have ef3 := free_blk (i := 3) hB8
        have ef4 := free_blk (i := 4) hB8
        have ef5 := free_blk (i := 5) hB8
        have ef6 := free_blk (i := 6) hB8
        simp at e0 e1 e2 e3 e4 e5 e6
        have cy0 := cell_blk (i := 0) hX8
        have cy1 := cell_blk (i := 1) hX8
        have cy2 := cell_blk (i := 2) hX8
        have cy3 := cell_blk (i := 3) hX8
        have cy4 := cell_blk (i := 4) hX8
        have cy5 := cell_blk (i := 5) hX8
        have cy6 := cell_blk (i := 6) hX8
        have cyf0 := free_blk (i := 0) hX8
        have cyf1 := free_blk (i := 1) hX8
        have cyf2 := free_blk (i := 2) hX8
        have cyf3 := free_blk (i := 3) hX8
        have cyf4 := free_blk (i := 4) hX8
        have cyf5 := free_blk (i := 5) hX8
        have cyf6 := free_blk (i := 6) hX8
        simp at cy0 cy1 cy2 cy3 cy4 cy5 cy6
        have sz8 : w2.heap.size < w8.heap.size := heap_lt hX8
        have HR := Lib.hid (row_above (B' := w2.heap.size + 1) (w' := w8) (ExAt.frames k) hr (((Above.refl _ _).setCell (by simp; omega) _).kept g8.kept (by omega)) (Nat.le_refl _))
        have GG := Lib.hid (Goes.trans (w := w) (E := E) (s := s4) (d := d) (by repeat (first | (with_reducible exact GG.out) | (with_reducible refine Goes.alloc ?_ _) | (with_reducible refine Goes.drew ?_) | ((with_reducible refine Goes.store ?_ HE.out ?_ _); rotate_left; focus (first | (simp; done) | (simp; omega) | omega)))) g8)
        have R8 := Lib.hid r8
        clear r8 g8 hB8 hX8 hr
        go_wp2
        refine bodyPost_ret (v := .agg #[.int .u8 q, .int .i64 0, .int .u8 0, .int .u8 0, .int .u8 0, .int .u8 0, .slice (some ⟨g9, 0, none⟩) 2 cap9]) (by simp [results, Tryz.results79, go_sem, e0, e1, e2, e3, e4, e5, e6]) rfl ?_
        refine ⟨.mk q 0 0 .zero ys, some ⟨g9, 0, none⟩, 2, cap9, s8, rfl, ⟨_, rfl, row_above (w := w8) (B := w2.heap.size + 1) (B' := w.heap.size) (ExAt.frames k) HR.out (by repeat (first | (with_reducible exact Above.refl _ _) | (with_reducible refine Above.alloc ?_ _) | (with_reducible refine Above.drew ?_) | ((with_reducible refine Above.setCell ?_ ?_ _); rotate_left; focus (first | (simp; done) | (simp; omega) | omega)))) (by omega)⟩, ?_, (by repeat (first | (with_reducible exact GG.out) | (with_reducible refine Goes.alloc ?_ _) | (with_reducible refine Goes.drew ?_) | ((with_reducible refine Goes.store ?_ HE.out ?_ _); rotate_left; focus (first | (simp; done) | (simp; omega) | omega))))⟩
        rw [HQ.out]
        exact Res.bind R1.out (Res.bind R2.out (Res.bind R4.out (Res.map _ R8.out)))
end Go.Proofs.YtmhpopkbmnhkkaaGreatDoor
