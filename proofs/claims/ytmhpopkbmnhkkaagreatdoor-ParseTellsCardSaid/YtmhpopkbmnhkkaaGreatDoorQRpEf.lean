import Derived.Test.YtmhpopkbmnhkkaaGreatDoorQRpMore
import Derived.Test.YtmhpopkbmnhkkaaGreatDoorQRpStp
import Derived.Test.YtmhpopkbmnhkkaaGreatDoorQParM
/- joustref02: an effect. -/
namespace Go.Proofs.YtmhpopkbmnhkkaaGreatDoor
open Go.RowKit Go.Lib

def REfEnds (p : Par Ef) (E : REnv) (s : RS) (w : World) (e : Ending) (w' : World) : Prop := ∃ (x : Ef) (ca : Option Addr) (cn cc : Nat) (va : Option Addr) (vn vc : Nat) (s' : RS),
  e = .returned (.agg #[.int .u8 x.mode, .int .u8 x.ev, .int .u8 x.side, .slice ca cn cc, .int .i64 x.pay, .int .i64 x.discard, .bool x.tribute, .int .i64 x.pick, .int .u8 x.sel.side, .int .u8 x.sel.zone, .int .u8 x.sel.kind, .slice va vn vc]) ∧ EfAt w' (From w.heap.size) (efV x (.slice ca cn cc) (.slice va vn vc)) x ∧ Res p s x s' ∧ RGoes w E s' w'

theorem row_widen {α : Type} {P : World → (Nat → Prop) → List Value → α → Prop} (hP : Frames P) {w : World} {S S' : Nat → Prop} {ty : TypeId} {size : Nat} {v : Value} {xs : List α} (h : RowAt w S ty size P v xs) (hs : ∀ k, S k → k < w.heap.size → S' k) : RowAt w S' ty size P v xs :=
  h.frame hP fun k hk hl => ⟨hs k hk hl, rfl⟩
theorem row_ab {α : Type} {P : World → (Nat → Prop) → List Value → α → Prop} (hP : Frames P) {w w' : World} {S : Nat → Prop} {B : Nat} {ty : TypeId} {size : Nat} {v : Value} {xs : List α} (h : RowAt w S ty size P v xs) (a : Above B w w') (hS : ∀ k, S k → B ≤ k) : RowAt w' S ty size P v xs :=
  h.frame hP fun k hk hl => ⟨hk, a.block k (hS k hk) hl⟩

set_option maxHeartbeats 8000000 in
set_option maxRecDepth 100000 in
theorem reffect_any (E : REnv) (s : RS) (w : World) (h : RR w E s) :
    Calls Tryz.prog 78 #[.pointer (some ⟨E.R, 0, none⟩)] w (REfEnds (pEffect E.ts) E s w) := by
  have HE := Lib.hid h.both
  have GG := Lib.hid (RGoes.start h)
  have hlt := h.lt
  obtain ⟨i0, hi0, hz0, hz1, hz2⟩ := info_parts Tryz.exprInfo
  obtain ⟨j0, hj0, hy0, hy1, hy2⟩ := info_parts Tryz.stepInfo
  clear h
  go_enter Tryz.func78, Tryz.ntmps78
  go_wp2_with fail
  refine (rModes_any E.R _ (by simp; omega)).mono ?_
  rintro e w1 ⟨v1, rfl, hv1, b1⟩
  have HV := Lib.hid hv1
  obtain ⟨wa, wn, wc, rfl⟩ := hv1.form
  have HB : Hid (w1.heap[w.heap.size]? = some (.cells EfC.zero.cells 43 (0, 0))) := by refine (b1.block _ (by simp)).trans ?_; exact heap_alloc_new _ _
  replace GG := Lib.hid (RGoes.below (w := w) (E := E) (s := s) (by repeat (first | (with_reducible exact GG.out) | (with_reducible refine RGoes.alloc ?_ _) | (with_reducible refine RGoes.drew ?_) | ((with_reducible refine RGoes.store ?_ HE.out ?_ _); rotate_left; focus (first | (simp; done) | (simp; omega) | omega)))) b1)
  have sz1 : w.heap.size < w1.heap.size := heap_lt HB.out
  clear b1 hv1
  go_wp2_with fail
  refine (rone_any E s _ _ modesW wdy_modes HV.out (RGoes.rd (w := w) (by repeat (first | (with_reducible exact GG.out) | (with_reducible refine RGoes.alloc ?_ _) | (with_reducible refine RGoes.drew ?_) | ((with_reducible refine RGoes.store ?_ HE.out ?_ _); rotate_left; focus (first | (simp; done) | (simp; omega) | omega)))))).mono ?_
  rintro e w2 ⟨m, s2, rfl, r2, l2, g2⟩
  replace HB := Lib.hid (g2.kept.heap (k := w.heap.size) (by omega) HB.out)
  replace GG := Lib.hid (RGoes.trans (w := w) (E := E) (s := s) (by repeat (first | (with_reducible exact GG.out) | (with_reducible refine RGoes.alloc ?_ _) | (with_reducible refine RGoes.drew ?_) | ((with_reducible refine RGoes.store ?_ HE.out ?_ _); rotate_left; focus (first | (simp; done) | (simp; omega) | omega)))) g2)
  have sz2 : w.heap.size < w2.heap.size := heap_lt HB.out
  have R2 := Lib.hid r2
  clear r2 l2 g2 HV
  have M0 := Lib.hid (Mid.new GG.out HB.out ({ EfC.zero with m := m }).cells)
  obtain ⟨X, hX⟩ : ∃ X, X = w2.heap.size := ⟨_, rfl⟩
  have M : Hid (Mid E w (w2.alloc (.cells ({ EfC.zero with m := m }).cells 43)) s2 43 EfC.zero.cells X ({ EfC.zero with m := m }).cells) := by rw [hX]; exact M0
  have szX : w.heap.size < X := by omega
  clear HB GG M0
  go_wp2_with fail
  refine (rskip_any E s2 _ ⟨#[117, 112, 111, 110]⟩ (by rfl) M.out.goes.rd).mono ?_
  rintro e w3 ⟨b3, s3, rfl, r3, g3⟩
  replace M := Lib.hid (M.out.call HE.out g3)
  have R3 := Lib.hid r3
  have HXX := Lib.hid hX
  rw [← hX]
  clear r3 g3 hX
  go_upto_if 9 with fail
  go_cut [9] (fun s9 wx => ∃ (u : Nat × Nat) (s4 : RS), Res (pUpon E.ts) s2 u s4 ∧ Mid E w wx s4 43 EfC.zero.cells X ({ EfC.zero with m := m, ev := u.1, sd := u.2 }).cells)
  case first =>
    cases b3 with
    | false =>
      go_wp2_with fail
      go_meet
      exact ⟨(0, 0), s3, Res.opt_no R3.out, M.out⟩
    | true =>
      go_wp2_with fail
      refine (rEvents_any E.R _ (by have := M.out.lt; omega)).mono ?_
      rintro e w4 ⟨v4, rfl, hv4, b4⟩
      have HV := Lib.hid hv4
      obtain ⟨wa, wn, wc, rfl⟩ := hv4.form
      replace M := Lib.hid (M.out.below b4)
      clear b4 hv4
      go_wp2_with fail
      refine (rone_any E s3 _ _ eventsW wdy_events HV.out M.out.goes.rd).mono ?_
      rintro e w5 ⟨ev, s5, rfl, r5, l5, g5⟩
      replace M := Lib.hid (M.out.call HE.out g5)
      have t1 := cell_blk (i := 1) M.out.loc
      have f1 := free_blk (i := 1) M.out.loc
      simp [EfC.cells] at t1
      have R5 := Lib.hid r5
      have hk0 : (0 : Int) ≤ (ev : Int) := by omega
      have hk1 : (ev : Int) ≤ 7 := by have : ev < 8 := l5; omega
      clear r5 g5 HV
      replace M := Lib.hid ((M.out.set HE.out 1 (.int .u8 ((ev : Int) + 1))).as (x' := ({ EfC.zero with m := m, ev := ev + 1 }).cells) rfl)
      go_wp2_with fail
      refine (rSides_any E.R _ (by have := M.out.lt; simp at this ⊢; omega)).mono ?_
      rintro e w6 ⟨v6, rfl, hv6, b6⟩
      have HV := Lib.hid hv6
      obtain ⟨wa, wn, wc, rfl⟩ := hv6.form
      replace M := Lib.hid (M.out.below b6)
      clear b6 hv6
      go_wp2_with fail
      refine (rone_any E s5 _ _ sidesW wdy_sides HV.out M.out.goes.rd).mono ?_
      rintro e w7 ⟨sd, s7, rfl, r7, l7, g7⟩
      replace M := Lib.hid (M.out.call HE.out g7)
      have t2 := cell_blk (i := 2) M.out.loc
      have f2 := free_blk (i := 2) M.out.loc
      simp [EfC.cells] at t2
      have R7 := Lib.hid r7
      clear r7 l7 g7 HV
      go_wp2_with fail
      go_meet
      exact ⟨(ev + 1, sd), s7, Res.opt_yes R3.out (Res.bind R5.out (Res.map _ R7.out)), (M.out.set HE.out 2 (.int .u8 sd)).as rfl⟩
  case rest =>
  clear M R3
  obtain ⟨⟨ev, sd⟩, s4, r4, m4⟩ := hcut
  have M := Lib.hid m4
  have R4 := Lib.hid r4
  clear m4 r4
  go_wp2_with fail
  go_loopw [20] (fun _ wr => ∃ (acc : List Ex) (a : Option Addr) (n c : Nat) (s1 : RS), n = acc.length ∧ acc.length ≤ 6 ∧ RowAt wr (From (X + 1)) 46 7 (ExAt 5) (.slice a n c) acc ∧ Mid E w wr s1 43 EfC.zero.cells X ({ EfC.zero with m := m, ev := ev, sd := sd, ca := a, cn := n, cc := c }).cells ∧ Left E.ts (inW [⟨#[110, 101, 101, 100, 115]⟩]) (pNeed E.ts) 6 s4 acc s1)
    (fun _ wr => 6 - cellLen wr ⟨X, 3, none⟩)
  case atStart => exact ⟨[], none, 0, 0, s4, rfl, Nat.zero_le _, RowAt.nil _ _ _ _ _, M.out, Left.start 6 s4⟩
  case round =>
  clear M
  obtain ⟨acc, a, n, c, s1, hn, hle, hrow, mm, hleft⟩ := hrel
  have M := Lib.hid mm
  have HRow := Lib.hid hrow
  have HLeft := Lib.hid hleft
  have HN := Lib.hid hn
  have hn6 : n ≤ 6 := by omega
  have hcl := cellLen_of (by rw [cell_blk mm.loc]; rfl : wr.cell? ⟨X, 3, none⟩ = some (.slice a n c))
  have HCL := Lib.hid hcl
  clear mm hrow hleft hn hle hcl
  cases hb : sees E s1 ⟨#[110, 101, 101, 100, 115]⟩ with
  | true =>
    go_wp2_with fail
    refine (ris_any E s1 _ ⟨#[110, 101, 101, 100, 115]⟩ true (by rfl) hb M.out.goes.rd).mono ?_
    rintro e w5 ⟨rfl, b5⟩
    replace M := Lib.hid (M.out.below b5)
    replace HRow := Lib.hid (row_below (ExAt.frames 5) HRow.out b5)
    obtain ⟨q, rfl, ht⟩ := sees_yes hb
    have hbg : Hid (inW [⟨#[110, 101, 101, 100, 115]⟩] (tk E.ts q) = true) := by unfold Hid; rw [inW_one]; exact decide_eq_true ht
    have t3 : w5.cell? ⟨X, 3, none⟩ = some (.slice a n c) := by rw [cell_blk M.out.loc]; rfl
    have f3 : w5.frozen? ⟨X, 3, none⟩ = false := free_blk M.out.loc
    have szw : X < w5.heap.size := M.out.lt
    clear hb ht b5
    by_cases h6 : n = 6
    · subst h6
      go_wp2_with fail
      refine (rfails_any E _ _ 3 (by decide) M.out.goes.rd).mono ?_
      rintro e w6 ⟨rfl, g6⟩
      replace M := Lib.hid (M.out.call HE.out g6)
      replace HRow := Lib.hid (row_kept (ExAt.frames 5) HRow.out g6.kept (fun i hi => by unfold From at hi; omega))
      have hfull : Hid (Res (pMany E.ts (inW [⟨#[110, 101, 101, 100, 115]⟩]) (pNeed E.ts) 6 []) s4 acc (RS.failR E 3 (.ok q))) := HLeft.out.fullR hbg.out HN.out.symm acc
      clear g6 t3 f3
      have hB : w6.heap[w.heap.size]? = some (.cells #[.int .u8 0, .int .u8 0, .int .u8 0, .slice none 0 0, .int .i64 0, .int .i64 0, .bool false, .int .i64 0, .int .u8 0, .int .u8 0, .int .u8 0, .slice none 0 0] 43 (0, 0)) := M.out.res
      have hX : w6.heap[X]? = some (.cells #[.int .u8 m, .int .u8 ev, .int .u8 sd, .slice a 6 c, .int .i64 0, .int .i64 0, .bool false, .int .i64 0, .int .u8 0, .int .u8 0, .int .u8 0, .slice none 0 0] 43 (0, 0)) := M.out.loc
      have GG := Lib.hid M.out.goes
      have e0 := cell_blk (i := 0) hB; have e1 := cell_blk (i := 1) hB; have e2 := cell_blk (i := 2) hB; have e3 := cell_blk (i := 3) hB; have e4 := cell_blk (i := 4) hB; have e5 := cell_blk (i := 5) hB; have e6 := cell_blk (i := 6) hB; have e7 := cell_blk (i := 7) hB; have e8 := cell_blk (i := 8) hB; have e9 := cell_blk (i := 9) hB; have e10 := cell_blk (i := 10) hB; have e11 := cell_blk (i := 11) hB; have ef0 := free_blk (i := 0) hB; have ef1 := free_blk (i := 1) hB; have ef2 := free_blk (i := 2) hB; have ef3 := free_blk (i := 3) hB; have ef4 := free_blk (i := 4) hB; have ef5 := free_blk (i := 5) hB; have ef6 := free_blk (i := 6) hB; have ef7 := free_blk (i := 7) hB; have ef8 := free_blk (i := 8) hB; have ef9 := free_blk (i := 9) hB; have ef10 := free_blk (i := 10) hB; have ef11 := free_blk (i := 11) hB; simp at e0 e1 e2 e3 e4 e5 e6 e7 e8 e9 e10 e11
      have cx0 := cell_blk (i := 0) hX; have cx1 := cell_blk (i := 1) hX; have cx2 := cell_blk (i := 2) hX; have cx3 := cell_blk (i := 3) hX; have cx4 := cell_blk (i := 4) hX; have cx5 := cell_blk (i := 5) hX; have cx6 := cell_blk (i := 6) hX; have cx7 := cell_blk (i := 7) hX; have cx8 := cell_blk (i := 8) hX; have cx9 := cell_blk (i := 9) hX; have cx10 := cell_blk (i := 10) hX; have cx11 := cell_blk (i := 11) hX; have cxf0 := free_blk (i := 0) hX; have cxf1 := free_blk (i := 1) hX; have cxf2 := free_blk (i := 2) hX; have cxf3 := free_blk (i := 3) hX; have cxf4 := free_blk (i := 4) hX; have cxf5 := free_blk (i := 5) hX; have cxf6 := free_blk (i := 6) hX; have cxf7 := free_blk (i := 7) hX; have cxf8 := free_blk (i := 8) hX; have cxf9 := free_blk (i := 9) hX; have cxf10 := free_blk (i := 10) hX; have cxf11 := free_blk (i := 11) hX; simp at cx0 cx1 cx2 cx3 cx4 cx5 cx6 cx7 cx8 cx9 cx10 cx11
      clear hB hX
      go_wp2
      refine bodyPost_ret (v := .agg #[.int .u8 m, .int .u8 ev, .int .u8 sd, .slice a 6 c, .int .i64 0, .int .i64 0, .bool false, .int .i64 0, .int .u8 0, .int .u8 0, .int .u8 0, .slice none 0 0]) (by simp [results, Tryz.results78, go_sem, e0, e1, e2, e3, e4, e5, e6, e7, e8, e9, e10, e11]) rfl ?_
      exact ⟨⟨m, ev, sd, acc, 0, 0, false, 0, .zero, []⟩, a, 6, c, none, 0, 0, RS.failR E 3 (.ok q), rfl, ⟨_, _, rfl, row_widen (ExAt.frames 5) (row_ab (w := w6) (B := X + 1) (ExAt.frames 5) HRow.out (by repeat (first | (with_reducible exact Above.refl _ _) | (with_reducible refine Above.alloc ?_ _) | (with_reducible refine Above.drew ?_) | ((with_reducible refine Above.setCell ?_ ?_ _); rotate_left; focus (first | (simp; done) | (simp; omega) | omega)))) (fun k hk => hk)) (fun k hk _ => by unfold From at *; omega), RowAt.nil _ _ _ _ _⟩, Res.bind R2.out (Res.bind R4.out (Res.bind hfull.out rfl)), (by repeat (first | (with_reducible exact GG.out) | (with_reducible refine RGoes.alloc ?_ _) | (with_reducible refine RGoes.drew ?_) | ((with_reducible refine RGoes.store ?_ HE.out ?_ _); rotate_left; focus (first | (simp; done) | (simp; omega) | omega))))⟩

    · have h6' : n < 6 := by omega
      go_wp2_with fail
      refine (rtake_any E _ _ ⟨#[110, 101, 101, 100, 115]⟩ (by rfl) M.out.goes.rd).mono ?_
      rintro e w6 ⟨rfl, s6, r6, g6⟩
      replace M := Lib.hid (M.out.call HE.out g6)
      obtain ⟨css, hrow⟩ := row_kept (ExAt.frames 5) HRow.out g6.kept (fun i hi => by unfold From at hi; omega)
      have HR := Lib.hid hrow
      have R6 := Lib.hid r6
      have cX : w6.cell? ⟨X, 3, none⟩ = some (.slice a n c) := by rw [cell_blk M.out.loc]; rfl
      have fX : w6.frozen? ⟨X, 3, none⟩ = false := free_blk M.out.loc
      have szv : X < w6.heap.size := M.out.lt
      clear g6 r6 t3 f3 HRow hrow h6
      go_wp2_with fail
      go_region_law (first
        | (refine step_append_lies _ (by rfl) _ _ _ (by rfl) 0 46 i0 _ 7 48 Tryz.underlying31 hi0 hz0 hz1 hz2 rfl (by omega) _ n css.flatten (by rfl) hown8 ⟨w8.heap.size, 0, none⟩ 1 1 (exV x1 (.slice va1 vn1 vc1)) (by rfl) (by rfl) (World.news_of_block (cs := (exV x1 (.slice va1 vn1 vc1)).toArray) (t := 46) (fr := (0, 0)) (heap_alloc_new _ _)) (by simp [exV, Value.oneCell']) (by omega) (by unfold maxLen; omega) (by omega) (Nat.zero_le _) _ rfl ?_; intro g cap w9 hown9 hgrow9 hat9 hlt9; have hgr9 : World.grownBy _ w9 (Value.slice a n c).ownBlock := hgrow9; have hX9 := (hgr9.block X (by simp; omega) (fun e => by have := HR.out.blk _ e.symm; unfold From at this; omega)).trans (heap_old hX8); have cX9 : w9.cell? ⟨X, 3, none⟩ = some (.slice a n c) := (by rw [cell_blk hX9]; rfl); have fX9 : w9.frozen? ⟨X, 3, none⟩ = false := free_blk hX9)
        | (go_simp; go_at_call 44; refine (rexpr_five E s6 _ M.out.goes.drew.rd).mono ?_; rintro e w8 ⟨x1, va1, vn1, vc1, s8, rfl, hx1, r8, g8⟩;
           have hX8 := (g8.kept.heap (by have := HE.out.2; omega) (heap_drew M.out.loc));
           have cX8 : w8.cell? ⟨X, 3, none⟩ = some (.slice a n c) := (by rw [cell_blk hX8]; rfl); have lX8 : X < w8.heap.size := heap_lt hX8; have nX8 : X ≠ w8.heap.size := Nat.ne_of_lt lX8;
           have hown8 : (w8.alloc (.cells #[.int .u8 x1.op, .int .i64 x1.n, .int .u8 x1.side, .int .u8 x1.sel.side, .int .u8 x1.sel.zone, .int .u8 x1.sel.kind, .slice va1 vn1 vc1] 46)).ownsRow 0 46 7 (.slice a n c) n css.flatten := (by
             have h0 := ownsRow_same (b := 0) HR.out.own (w' := w8.alloc (.cells #[.int .u8 x1.op, .int .i64 x1.n, .int .u8 x1.side, .int .u8 x1.sel.side, .int .u8 x1.sel.zone, .int .u8 x1.sel.kind, .slice va1 vn1 vc1] 46)) (fun i hi => (Below.heap_alloc _ _ _ (Nat.lt_of_lt_of_le (HR.out.own.lt i hi).2 g8.kept.size)).trans (g8.kept.block i (HR.out.own.lt i hi).2 (by have := HR.out.blk i hi; unfold From at this; have := HE.out.2; omega)))
             rw [← HN.out] at h0
             exact h0)))
      all_goals
        have hmore := Mid.more (i := 3) (x1 := x1) (c1 := exV x1 (.slice va1 vn1 vc1)) (s3 := s8) (w5 := w8) (w6 := w9) (g := g) (cap := cap) (b := 0) M.out.drewM HE.out (ExAt.frames 5) (Nat.lt_succ_self X) szv g8 (HR.out.frame (w' := w6.drew) (ExAt.frames 5) fun i hi _ => ⟨hi, rfl⟩) hx1 rfl (by simp [exV, Value.oneCell']) (by rw [← HN.out]; exact hown9) hgr9 (hat9.imp id fun e => by rw [e]; simp)
        rw [← HN.out] at hmore
        have HM := Lib.hid hmore
        have hr8 : Hid (Res (pNeed E.ts) (.ok q) x1 s8) := Res.bind R6.out r8
        clear hmore hx1 r8 g8 hown9 hgrow9 hgr9 hat9 hown8
        go_wp2_with fail
        go_roundw
        case rel => exact ⟨acc ++ [x1], some ⟨g, 0, none⟩, n + 1, cap, s8, by rw [List.length_append, HN.out]; rfl, by rw [List.length_append, ← HN.out]; simp; omega, HM.out.2, HM.out.1, HLeft.out.more hbg.out (by rw [← HN.out]; exact h6') hr8.out⟩
        case measure =>
          have h1 := cellLen_of (by rw [cell_blk HM.out.1.loc]; rfl : World.cell? _ ⟨X, 3, none⟩ = some (.slice (some ⟨g, 0, none⟩) (n + 1) cap))
          rw [HCL.out, h1]; omega
  | false =>
  clear HCL hn6
  go_wp2_with fail
  refine (ris_any E s1 _ ⟨#[110, 101, 101, 100, 115]⟩ false (by rfl) hb M.out.goes.rd).mono ?_
  rintro e w5 ⟨rfl, b5⟩
  replace M := Lib.hid (M.out.below b5)
  replace HRow := Lib.hid (row_below (ExAt.frames 5) HRow.out b5)
  have RC : Hid (Res (pMany E.ts (inW [⟨#[110, 101, 101, 100, 115]⟩]) (pNeed E.ts) 6 []) s4 acc s1) := HLeft.out.doneR (fun q hq => by subst hq; rw [inW_one]; exact decide_eq_false (sees_no hb))
  clear hb b5 HLeft
  go_wp2_with fail
  refine (rskip_any E s1 _ ⟨#[112, 97, 121, 115]⟩ (by rfl) M.out.goes.rd).mono ?_
  rintro e w20 ⟨b20, s20, rfl, r20, g20⟩
  replace HRow := Lib.hid (row_kept (ExAt.frames 5) HRow.out g20.kept (fun i hi => by unfold From at hi; omega))
  replace M := Lib.hid (M.out.call HE.out g20)
  have R20 := Lib.hid r20
  clear r20 g20
  go_upto_if 38 with fail
  go_cut [38] (fun s38 wx => ∃ (v : Int) (s7 : RS), Res (pOpt E.ts ⟨#[112, 97, 121, 115]⟩ (pNum E.ts) 0) s1 v s7 ∧ Mid E w wx s7 43 EfC.zero.cells X ({ EfC.zero with m := m, ev := ev, sd := sd, ca := a, cn := n, cc := c, pay := v }).cells ∧ RowAt wx (From (X + 1)) 46 7 (ExAt 5) (.slice a n c) acc)
  case first =>
    cases b20 with
    | false =>
      go_wp2_with fail
      go_meet
      exact ⟨0, s20, Res.opt_no R20.out, M.out, HRow.out⟩
    | true =>
      go_wp2_with fail
      refine (rnum_any E s20 _ M.out.goes.rd).mono ?_
      rintro e w9 ⟨v9, s9, rfl, r9, g9⟩
      replace M := Lib.hid (M.out.call HE.out g9)
      replace HRow := Lib.hid (row_kept (ExAt.frames 5) HRow.out g9.kept (fun i hi => by unfold From at hi; omega))
      have t9 := cell_blk (i := 4) M.out.loc
      have f9 := free_blk (i := 4) M.out.loc
      simp [EfC.cells] at t9
      have R9 := Lib.hid r9
      clear r9 g9
      go_wp2_with fail
      go_meet
      exact ⟨v9, s9, Res.opt_yes R20.out R9.out, (M.out.set HE.out 4 (.int .i64 v9)).as rfl, row_set (ExAt.frames 5) HRow.out (fun i hi => by unfold From at hi; simp; omega)⟩
  case rest =>
  clear M HRow R20
  obtain ⟨pay, s5, r7, m7, hrow7⟩ := hcut
  have M := Lib.hid m7
  have HRow := Lib.hid hrow7
  have Rpay := Lib.hid r7
  clear r7 m7 hrow7
  go_wp2_with fail
  refine (rskip_any E s5 _ ⟨#[100, 114, 111, 112, 115]⟩ (by rfl) M.out.goes.rd).mono ?_
  rintro e w20 ⟨b20, s20, rfl, r20, g20⟩
  replace HRow := Lib.hid (row_kept (ExAt.frames 5) HRow.out g20.kept (fun i hi => by unfold From at hi; omega))
  replace M := Lib.hid (M.out.call HE.out g20)
  have R20 := Lib.hid r20
  clear r20 g20
  go_upto_if 43 with fail
  go_cut [43] (fun s38 wx => ∃ (v : Int) (s7 : RS), Res (pOpt E.ts ⟨#[100, 114, 111, 112, 115]⟩ (pNum E.ts) 0) s5 v s7 ∧ Mid E w wx s7 43 EfC.zero.cells X ({ EfC.zero with m := m, ev := ev, sd := sd, ca := a, cn := n, cc := c, pay := pay, dr := v }).cells ∧ RowAt wx (From (X + 1)) 46 7 (ExAt 5) (.slice a n c) acc)
  case first =>
    cases b20 with
    | false =>
      go_wp2_with fail
      go_meet
      exact ⟨0, s20, Res.opt_no R20.out, M.out, HRow.out⟩
    | true =>
      go_wp2_with fail
      refine (rnum_any E s20 _ M.out.goes.rd).mono ?_
      rintro e w9 ⟨v9, s9, rfl, r9, g9⟩
      replace M := Lib.hid (M.out.call HE.out g9)
      replace HRow := Lib.hid (row_kept (ExAt.frames 5) HRow.out g9.kept (fun i hi => by unfold From at hi; omega))
      have t9 := cell_blk (i := 5) M.out.loc
      have f9 := free_blk (i := 5) M.out.loc
      simp [EfC.cells] at t9
      have R9 := Lib.hid r9
      clear r9 g9
      go_wp2_with fail
      go_meet
      exact ⟨v9, s9, Res.opt_yes R20.out R9.out, (M.out.set HE.out 5 (.int .i64 v9)).as rfl, row_set (ExAt.frames 5) HRow.out (fun i hi => by unfold From at hi; simp; omega)⟩
  case rest =>
  clear M HRow R20
  obtain ⟨dr, s6, r7, m7, hrow7⟩ := hcut
  have M := Lib.hid m7
  have HRow := Lib.hid hrow7
  have Rdr := Lib.hid r7
  clear r7 m7 hrow7
  go_wp2_with fail
  refine (rskip_any E s6 _ ⟨#[115, 112, 101, 110, 100, 115]⟩ (by rfl) M.out.goes.rd).mono ?_
  rintro e w30 ⟨b30, s30, rfl, r30, g30⟩
  replace HRow := Lib.hid (row_kept (ExAt.frames 5) HRow.out g30.kept (fun i hi => by unfold From at hi; omega))
  replace M := Lib.hid (M.out.call HE.out g30)
  have t6 := cell_blk (i := 6) M.out.loc
  have f6 := free_blk (i := 6) M.out.loc
  simp [EfC.cells] at t6
  replace M := Lib.hid ((M.out.set HE.out 6 (.bool b30)).as (x' := ({ EfC.zero with m := m, ev := ev, sd := sd, ca := a, cn := n, cc := c, pay := pay, dr := dr, tr := b30 }).cells) rfl)
  replace HRow := Lib.hid (row_set (a := ⟨X, 6, none⟩) (u := .bool b30) (ExAt.frames 5) HRow.out (fun i hi => by unfold From at hi; simp; omega))
  have R30 := Lib.hid r30
  clear r30 g30
  go_wp2_with fail
  refine (rskip_any E s30 _ ⟨#[112, 105, 99, 107, 115]⟩ (by rfl) M.out.goes.rd).mono ?_
  rintro e w31 ⟨b31, s31, rfl, r31, g31⟩
  replace HRow := Lib.hid (row_kept (ExAt.frames 5) HRow.out g31.kept (fun i hi => by unfold From at hi; omega))
  replace M := Lib.hid (M.out.call HE.out g31)
  have R31 := Lib.hid r31
  clear r31 g31 t6 f6
  go_upto_if 51 with fail
  go_cut [51] (fun s51 wx => ∃ (v : Int × Sl) (s7 : RS), Res (pPicks E.ts) s30 v s7 ∧ Mid E w wx s7 43 EfC.zero.cells X ({ EfC.zero with m := m, ev := ev, sd := sd, ca := a, cn := n, cc := c, pay := pay, dr := dr, tr := b30, pk := v.1, k1 := v.2.side, k2 := v.2.zone, k3 := v.2.kind }).cells ∧ RowAt wx (From (X + 1)) 46 7 (ExAt 5) (.slice a n c) acc)
  case first =>
    cases b31 with
    | false =>
      go_wp2_with fail
      go_meet
      exact ⟨(0, .zero), s31, Res.opt_no R31.out, M.out, HRow.out⟩
    | true =>
      go_wp2_with fail
      refine (rnum_any E s31 _ M.out.goes.rd).mono ?_
      rintro e w9 ⟨v9, s9, rfl, r9, g9⟩
      replace M := Lib.hid (M.out.call HE.out g9)
      replace HRow := Lib.hid (row_kept (ExAt.frames 5) HRow.out g9.kept (fun i hi => by unfold From at hi; omega))
      have t9 := cell_blk (i := 7) M.out.loc
      have f9 := free_blk (i := 7) M.out.loc
      simp [EfC.cells] at t9
      replace M := Lib.hid ((M.out.set HE.out 7 (.int .i64 v9)).as (x' := ({ EfC.zero with m := m, ev := ev, sd := sd, ca := a, cn := n, cc := c, pay := pay, dr := dr, tr := b30, pk := v9 }).cells) rfl)
      replace HRow := Lib.hid (row_set (a := ⟨X, 7, none⟩) (u := .int .i64 v9) (ExAt.frames 5) HRow.out (fun i hi => by unfold From at hi; simp; omega))
      have R9 := Lib.hid r9
      clear r9 g9
      go_wp2_with fail
      refine (rsel_any E s9 _ M.out.goes.rd).mono ?_
      rintro e w10 ⟨sl, s10, rfl, r10, g10⟩
      replace M := Lib.hid (M.out.call HE.out g10)
      replace HRow := Lib.hid (row_kept (ExAt.frames 5) HRow.out g10.kept (fun i hi => by unfold From at hi; omega))
      have t10 := cell_blk (i := 8) M.out.loc
      have f10 := free_blk (i := 8) M.out.loc
      have t11 := cell_blk (i := 9) M.out.loc
      have f11 := free_blk (i := 9) M.out.loc
      have t12 := cell_blk (i := 10) M.out.loc
      have f12 := free_blk (i := 10) M.out.loc
      simp [EfC.cells] at t10 t11 t12
      have R10 := Lib.hid r10
      clear r10 g10 t9 f9
      go_wp2_with fail
      go_meet
      exact ⟨(v9, sl), s10, Res.opt_yes R31.out (Res.bind R9.out (Res.map _ R10.out)), (((M.out.set HE.out 8 (.int .u8 sl.side)).set HE.out 9 (.int .u8 sl.zone)).set HE.out 10 (.int .u8 sl.kind)).as rfl,
        row_set (ExAt.frames 5) (row_set (ExAt.frames 5) (row_set (ExAt.frames 5) HRow.out (fun i hi => by unfold From at hi; simp; omega)) (fun i hi => by unfold From at hi; simp; omega)) (fun i hi => by unfold From at hi; simp; omega)⟩
  case rest =>
  clear M HRow R31
  obtain ⟨⟨pk, sl⟩, s7, r7, m7, hrow7⟩ := hcut
  have M := Lib.hid m7
  have HRow := Lib.hid hrow7
  have RP := Lib.hid r7
  clear r7 m7 hrow7
  go_wp2_with fail
  refine (rtake_any E s7 _ ⟨#[58]⟩ (by rfl) M.out.goes.rd).mono ?_
  rintro e w40 ⟨rfl, s40, r40, g40⟩
  replace M := Lib.hid (M.out.call HE.out g40)
  obtain ⟨B, hBd⟩ : ∃ B, B = w40.heap.size := ⟨_, rfl⟩
  replace HRow : Hid (RowAt w40 (fun k => X + 1 ≤ k ∧ k < B) 46 7 (ExAt 5) (.slice a n c) acc) := Lib.hid (row_widen (ExAt.frames 5) (row_kept (ExAt.frames 5) HRow.out g40.kept (fun i hi => by unfold From at hi; omega)) (fun k hk hl => ⟨hk, by omega⟩))
  have szB : X < B := by have := M.out.lt; omega
  have HBd : Hid (B ≤ w40.heap.size) := by unfold Hid; omega
  have R40 := Lib.hid r40
  clear r40 g40 hBd
  go_wp2_with fail
  go_loopw [62] (fun _ wr => ∃ (ys : List St) (va : Option Addr) (vn vc : Nat) (s8 : RS), vn = ys.length ∧ ys.length ≤ 6 ∧ B ≤ wr.heap.size ∧ RowAt wr (fun k => X + 1 ≤ k ∧ k < B) 46 7 (ExAt 5) (.slice a n c) acc ∧ RowAt wr (From B) 58 13 StAt (.slice va vn vc) ys ∧ Mid E w wr s8 43 EfC.zero.cells X ({ EfC.zero with m := m, ev := ev, sd := sd, ca := a, cn := n, cc := c, pay := pay, dr := dr, tr := b30, pk := pk, k1 := sl.side, k2 := sl.zone, k3 := sl.kind, va := va, vn := vn, vc := vc }).cells ∧ Left E.ts (inW stepsW) (pStep E.ts) 6 s40 ys s8)
    (fun _ wr => 6 - cellLen wr ⟨X, 11, none⟩)
  case atStart => exact ⟨[], none, 0, 0, s40, rfl, Nat.zero_le _, HBd.out, HRow.out, RowAt.nil _ _ _ _ _, M.out, Left.start 6 s40⟩
  case round =>
  clear M HRow
  obtain ⟨ys, va, vn, vc, s8, hn, hle, hBw, hrow, hst, mm, hleft⟩ := hrel
  have M := Lib.hid mm
  have HRow := Lib.hid hrow
  have HSt := Lib.hid hst
  have HLeft := Lib.hid hleft
  have HN2 := Lib.hid hn
  have hn6 : vn ≤ 6 := by omega
  have hcl := cellLen_of (by rw [cell_blk mm.loc]; rfl : wr.cell? ⟨X, 11, none⟩ = some (.slice va vn vc))
  have HCL := Lib.hid hcl
  clear mm hrow hst hleft hn hle hcl
  go_wp2_with fail
  refine (rSteps_any E.R _ M.out.goes.rd.lt).mono ?_
  rintro e w41 ⟨v41, rfl, hv41, b41⟩
  have HV := Lib.hid hv41
  obtain ⟨wa, wn, wc, rfl⟩ := hv41.form
  have hBw1 : B ≤ w41.heap.size := Nat.le_trans hBw b41.size
  replace M := Lib.hid (M.out.below b41)
  replace HRow := Lib.hid (row_below (ExAt.frames 5) HRow.out b41)
  replace HSt := Lib.hid (row_below StAt.frames HSt.out b41)
  clear b41 hv41
  go_wp2_with fail
  refine (ramong_any E s8 _ _ stepsW wdy_steps HV.out M.out.goes.rd).mono ?_
  rintro e w42 ⟨rfl, g42⟩
  have hBw2 : B ≤ w42.heap.size := Nat.le_trans hBw1 g42.kept.size
  replace M := Lib.hid (M.out.call HE.out g42)
  replace HRow := Lib.hid (row_kept (ExAt.frames 5) HRow.out g42.kept (fun i hi => by omega))
  replace HSt := Lib.hid (row_kept StAt.frames HSt.out g42.kept (fun i hi => by unfold From at hi; omega))
  have szw : X < w42.heap.size := M.out.lt
  clear g42 HV
  cases hb : amongW E s8 stepsW with
  | false =>
    have RS8 : Hid (Res (pMany E.ts (inW stepsW) (pStep E.ts) 6 []) s40 ys s8) := HLeft.out.doneR (fun q hq => by subst hq; exact hb)
    clear hb HLeft HCL
    have hB : w42.heap[w.heap.size]? = some (.cells #[.int .u8 0, .int .u8 0, .int .u8 0, .slice none 0 0, .int .i64 0, .int .i64 0, .bool false, .int .i64 0, .int .u8 0, .int .u8 0, .int .u8 0, .slice none 0 0] 43 (0, 0)) := M.out.res
    have hX : w42.heap[X]? = some (.cells #[.int .u8 m, .int .u8 ev, .int .u8 sd, .slice a n c, .int .i64 pay, .int .i64 dr, .bool b30, .int .i64 pk, .int .u8 sl.side, .int .u8 sl.zone, .int .u8 sl.kind, .slice va vn vc] 43 (0, 0)) := M.out.loc
    have GG := Lib.hid M.out.goes
    have e0 := cell_blk (i := 0) hB; have e1 := cell_blk (i := 1) hB; have e2 := cell_blk (i := 2) hB; have e3 := cell_blk (i := 3) hB; have e4 := cell_blk (i := 4) hB; have e5 := cell_blk (i := 5) hB; have e6 := cell_blk (i := 6) hB; have e7 := cell_blk (i := 7) hB; have e8 := cell_blk (i := 8) hB; have e9 := cell_blk (i := 9) hB; have e10 := cell_blk (i := 10) hB; have e11 := cell_blk (i := 11) hB; have ef0 := free_blk (i := 0) hB; have ef1 := free_blk (i := 1) hB; have ef2 := free_blk (i := 2) hB; have ef3 := free_blk (i := 3) hB; have ef4 := free_blk (i := 4) hB; have ef5 := free_blk (i := 5) hB; have ef6 := free_blk (i := 6) hB; have ef7 := free_blk (i := 7) hB; have ef8 := free_blk (i := 8) hB; have ef9 := free_blk (i := 9) hB; have ef10 := free_blk (i := 10) hB; have ef11 := free_blk (i := 11) hB; simp at e0 e1 e2 e3 e4 e5 e6 e7 e8 e9 e10 e11
    have cx0 := cell_blk (i := 0) hX; have cx1 := cell_blk (i := 1) hX; have cx2 := cell_blk (i := 2) hX; have cx3 := cell_blk (i := 3) hX; have cx4 := cell_blk (i := 4) hX; have cx5 := cell_blk (i := 5) hX; have cx6 := cell_blk (i := 6) hX; have cx7 := cell_blk (i := 7) hX; have cx8 := cell_blk (i := 8) hX; have cx9 := cell_blk (i := 9) hX; have cx10 := cell_blk (i := 10) hX; have cx11 := cell_blk (i := 11) hX; have cxf0 := free_blk (i := 0) hX; have cxf1 := free_blk (i := 1) hX; have cxf2 := free_blk (i := 2) hX; have cxf3 := free_blk (i := 3) hX; have cxf4 := free_blk (i := 4) hX; have cxf5 := free_blk (i := 5) hX; have cxf6 := free_blk (i := 6) hX; have cxf7 := free_blk (i := 7) hX; have cxf8 := free_blk (i := 8) hX; have cxf9 := free_blk (i := 9) hX; have cxf10 := free_blk (i := 10) hX; have cxf11 := free_blk (i := 11) hX; simp at cx0 cx1 cx2 cx3 cx4 cx5 cx6 cx7 cx8 cx9 cx10 cx11
    clear hB hX
    go_wp2
    refine bodyPost_ret (v := .agg #[.int .u8 m, .int .u8 ev, .int .u8 sd, .slice a n c, .int .i64 pay, .int .i64 dr, .bool b30, .int .i64 pk, .int .u8 sl.side, .int .u8 sl.zone, .int .u8 sl.kind, .slice va vn vc]) (by simp [results, Tryz.results78, go_sem, e0, e1, e2, e3, e4, e5, e6, e7, e8, e9, e10, e11]) rfl ?_
    exact ⟨⟨m, ev, sd, acc, pay, dr, b30, pk, sl, ys⟩, a, n, c, va, vn, vc, s8, rfl, ⟨_, _, rfl, row_widen (ExAt.frames 5) (row_ab (w := w42) (B := X + 1) (ExAt.frames 5) HRow.out (by repeat (first | (with_reducible exact Above.refl _ _) | (with_reducible refine Above.alloc ?_ _) | (with_reducible refine Above.drew ?_) | ((with_reducible refine Above.setCell ?_ ?_ _); rotate_left; focus (first | (simp; done) | (simp; omega) | omega)))) (fun k hk => hk.1)) (fun k hk _ => by unfold From; omega), row_widen StAt.frames (row_ab (w := w42) (B := X + 1) StAt.frames HSt.out (by repeat (first | (with_reducible exact Above.refl _ _) | (with_reducible refine Above.alloc ?_ _) | (with_reducible refine Above.drew ?_) | ((with_reducible refine Above.setCell ?_ ?_ _); rotate_left; focus (first | (simp; done) | (simp; omega) | omega)))) (fun k hk => by unfold From at hk; omega)) (fun k hk _ => by unfold From at *; omega)⟩, Res.bind R2.out (Res.bind R4.out (Res.bind RC.out (Res.bind Rpay.out (Res.bind Rdr.out (Res.bind R30.out (Res.bind RP.out (Res.bind R40.out (Res.map _ RS8.out)))))))), (by repeat (first | (with_reducible exact GG.out) | (with_reducible refine RGoes.alloc ?_ _) | (with_reducible refine RGoes.drew ?_) | ((with_reducible refine RGoes.store ?_ HE.out ?_ _); rotate_left; focus (first | (simp; done) | (simp; omega) | omega))))⟩

  | true =>
    obtain ⟨q, rfl, hbq⟩ : ∃ q, s8 = .ok q ∧ inW stepsW (tk E.ts q) = true := by
      cases s8 with
      | ok q => exact ⟨q, rfl, hb⟩
      | bad _ _ _ => cases hb
    have hbg := Lib.hid hbq
    have t3 : w42.cell? ⟨X, 11, none⟩ = some (.slice va vn vc) := by rw [cell_blk M.out.loc]; rfl
    have f3 : w42.frozen? ⟨X, 11, none⟩ = false := free_blk M.out.loc
    clear hb hbq
    by_cases h6 : vn = 6
    · subst h6
      go_wp2_with fail
      refine (rfails_any E _ _ 3 (by decide) M.out.goes.rd).mono ?_
      rintro e w6 ⟨rfl, g6⟩
      replace M := Lib.hid (M.out.call HE.out g6)
      replace HRow := Lib.hid (row_kept (ExAt.frames 5) HRow.out g6.kept (fun i hi => by omega))
      replace HSt := Lib.hid (row_kept StAt.frames HSt.out g6.kept (fun i hi => by unfold From at hi; omega))
      have szw6 : X < w6.heap.size := M.out.lt
      have hfull : Hid (Res (pMany E.ts (inW stepsW) (pStep E.ts) 6 []) s40 ys (RS.failR E 3 (.ok q))) := HLeft.out.fullR hbg.out HN2.out.symm ys
      clear g6 t3 f3
      have hB : w6.heap[w.heap.size]? = some (.cells #[.int .u8 0, .int .u8 0, .int .u8 0, .slice none 0 0, .int .i64 0, .int .i64 0, .bool false, .int .i64 0, .int .u8 0, .int .u8 0, .int .u8 0, .slice none 0 0] 43 (0, 0)) := M.out.res
      have hX : w6.heap[X]? = some (.cells #[.int .u8 m, .int .u8 ev, .int .u8 sd, .slice a n c, .int .i64 pay, .int .i64 dr, .bool b30, .int .i64 pk, .int .u8 sl.side, .int .u8 sl.zone, .int .u8 sl.kind, .slice va 6 vc] 43 (0, 0)) := M.out.loc
      have GG := Lib.hid M.out.goes
      have e0 := cell_blk (i := 0) hB; have e1 := cell_blk (i := 1) hB; have e2 := cell_blk (i := 2) hB; have e3 := cell_blk (i := 3) hB; have e4 := cell_blk (i := 4) hB; have e5 := cell_blk (i := 5) hB; have e6 := cell_blk (i := 6) hB; have e7 := cell_blk (i := 7) hB; have e8 := cell_blk (i := 8) hB; have e9 := cell_blk (i := 9) hB; have e10 := cell_blk (i := 10) hB; have e11 := cell_blk (i := 11) hB; have ef0 := free_blk (i := 0) hB; have ef1 := free_blk (i := 1) hB; have ef2 := free_blk (i := 2) hB; have ef3 := free_blk (i := 3) hB; have ef4 := free_blk (i := 4) hB; have ef5 := free_blk (i := 5) hB; have ef6 := free_blk (i := 6) hB; have ef7 := free_blk (i := 7) hB; have ef8 := free_blk (i := 8) hB; have ef9 := free_blk (i := 9) hB; have ef10 := free_blk (i := 10) hB; have ef11 := free_blk (i := 11) hB; simp at e0 e1 e2 e3 e4 e5 e6 e7 e8 e9 e10 e11
      have cx0 := cell_blk (i := 0) hX; have cx1 := cell_blk (i := 1) hX; have cx2 := cell_blk (i := 2) hX; have cx3 := cell_blk (i := 3) hX; have cx4 := cell_blk (i := 4) hX; have cx5 := cell_blk (i := 5) hX; have cx6 := cell_blk (i := 6) hX; have cx7 := cell_blk (i := 7) hX; have cx8 := cell_blk (i := 8) hX; have cx9 := cell_blk (i := 9) hX; have cx10 := cell_blk (i := 10) hX; have cx11 := cell_blk (i := 11) hX; have cxf0 := free_blk (i := 0) hX; have cxf1 := free_blk (i := 1) hX; have cxf2 := free_blk (i := 2) hX; have cxf3 := free_blk (i := 3) hX; have cxf4 := free_blk (i := 4) hX; have cxf5 := free_blk (i := 5) hX; have cxf6 := free_blk (i := 6) hX; have cxf7 := free_blk (i := 7) hX; have cxf8 := free_blk (i := 8) hX; have cxf9 := free_blk (i := 9) hX; have cxf10 := free_blk (i := 10) hX; have cxf11 := free_blk (i := 11) hX; simp at cx0 cx1 cx2 cx3 cx4 cx5 cx6 cx7 cx8 cx9 cx10 cx11
      clear hB hX
      go_wp2
      refine bodyPost_ret (v := .agg #[.int .u8 m, .int .u8 ev, .int .u8 sd, .slice a n c, .int .i64 pay, .int .i64 dr, .bool b30, .int .i64 pk, .int .u8 sl.side, .int .u8 sl.zone, .int .u8 sl.kind, .slice va 6 vc]) (by simp [results, Tryz.results78, go_sem, e0, e1, e2, e3, e4, e5, e6, e7, e8, e9, e10, e11]) rfl ?_
      exact ⟨⟨m, ev, sd, acc, pay, dr, b30, pk, sl, ys⟩, a, n, c, va, 6, vc, RS.failR E 3 (.ok q), rfl, ⟨_, _, rfl, row_widen (ExAt.frames 5) (row_ab (w := w6) (B := X + 1) (ExAt.frames 5) HRow.out (by repeat (first | (with_reducible exact Above.refl _ _) | (with_reducible refine Above.alloc ?_ _) | (with_reducible refine Above.drew ?_) | ((with_reducible refine Above.setCell ?_ ?_ _); rotate_left; focus (first | (simp; done) | (simp; omega) | omega)))) (fun k hk => hk.1)) (fun k hk _ => by unfold From; omega), row_widen StAt.frames (row_ab (w := w6) (B := X + 1) StAt.frames HSt.out (by repeat (first | (with_reducible exact Above.refl _ _) | (with_reducible refine Above.alloc ?_ _) | (with_reducible refine Above.drew ?_) | ((with_reducible refine Above.setCell ?_ ?_ _); rotate_left; focus (first | (simp; done) | (simp; omega) | omega)))) (fun k hk => by unfold From at hk; omega)) (fun k hk _ => by unfold From at *; omega)⟩, Res.bind R2.out (Res.bind R4.out (Res.bind RC.out (Res.bind Rpay.out (Res.bind Rdr.out (Res.bind R30.out (Res.bind RP.out (Res.bind R40.out (Res.map _ hfull.out)))))))), (by repeat (first | (with_reducible exact GG.out) | (with_reducible refine RGoes.alloc ?_ _) | (with_reducible refine RGoes.drew ?_) | ((with_reducible refine RGoes.store ?_ HE.out ?_ _); rotate_left; focus (first | (simp; done) | (simp; omega) | omega))))⟩

    · have h6' : vn < 6 := by omega
      obtain ⟨css, hrow⟩ := HSt.out
      have HR := Lib.hid hrow
      clear hrow h6
      go_wp2_with fail
      go_region_law (first
        | (refine step_append_lies _ (by rfl) _ _ _ (by rfl) 0 58 j0 _ 13 64 Tryz.underlying41 hj0 hy0 hy1 hy2 rfl (by omega) _ vn css.flatten (by rfl) hown8 ⟨w8.heap.size, 0, none⟩ 1 1 (stV x1 (exV x1.n (.slice va1 vn1 vc1))) (by rfl) (by rfl) (World.news_of_block (cs := (stV x1 (exV x1.n (.slice va1 vn1 vc1))).toArray) (t := 58) (fr := (0, 0)) (heap_alloc_new _ _)) (by simp [exV, stV, slV, Value.oneCell']) (by omega) (by unfold maxLen; omega) (by omega) (Nat.zero_le _) _ rfl ?_; intro g cap w9 hown9 hgrow9 hat9 hlt9; have hgr9 : World.grownBy _ w9 (Value.slice va vn vc).ownBlock := hgrow9; have hX9 := (hgr9.block X (by simp; omega) (fun e => by have := HR.out.blk _ e.symm; unfold From at this; omega)).trans (heap_old hX8); have cX9 : w9.cell? ⟨X, 11, none⟩ = some (.slice va vn vc) := (by rw [cell_blk hX9]; rfl); have fX9 : w9.frozen? ⟨X, 11, none⟩ = false := free_blk hX9)
        | (go_simp; go_at_call 132; refine (rstep_any E _ _ M.out.goes.drew.rd).mono ?_; rintro e w8 ⟨x1, va1, vn1, vc1, s9, rfl, hx1, r8, g8⟩;
           have hX8 := (g8.kept.heap (by have := HE.out.2; omega) (heap_drew M.out.loc));
           have cX8 : w8.cell? ⟨X, 11, none⟩ = some (.slice va vn vc) := (by rw [cell_blk hX8]; rfl); have lX8 : X < w8.heap.size := heap_lt hX8; have nX8 : X ≠ w8.heap.size := Nat.ne_of_lt lX8;
           have hown8 : (w8.alloc (.cells #[.int .u8 x1.dof, .int .u8 x1.side, .int .u8 (Ex.op x1.n), .int .i64 (Ex.n x1.n), .int .u8 (Ex.side x1.n), .int .u8 (Ex.sel x1.n).side, .int .u8 (Ex.sel x1.n).zone, .int .u8 (Ex.sel x1.n).kind, .slice va1 vn1 vc1, .bool x1.all, .int .u8 x1.sel.side, .int .u8 x1.sel.zone, .int .u8 x1.sel.kind] 58)).ownsRow 0 58 13 (.slice va vn vc) vn css.flatten := (by
             have h0 := ownsRow_same (b := 0) HR.out.own (w' := w8.alloc (.cells #[.int .u8 x1.dof, .int .u8 x1.side, .int .u8 (Ex.op x1.n), .int .i64 (Ex.n x1.n), .int .u8 (Ex.side x1.n), .int .u8 (Ex.sel x1.n).side, .int .u8 (Ex.sel x1.n).zone, .int .u8 (Ex.sel x1.n).kind, .slice va1 vn1 vc1, .bool x1.all, .int .u8 x1.sel.side, .int .u8 x1.sel.zone, .int .u8 x1.sel.kind] 58)) (fun i hi => (Below.heap_alloc _ _ _ (Nat.lt_of_lt_of_le (HR.out.own.lt i hi).2 g8.kept.size)).trans (g8.kept.block i (HR.out.own.lt i hi).2 (by have := HR.out.blk i hi; unfold From at this; have := HE.out.2; omega)))
             rw [← HN2.out] at h0
             exact h0)))
      all_goals
        have hmore := Mid.more (i := 11) (x1 := x1) (c1 := stV x1 (exV x1.n (.slice va1 vn1 vc1))) (s3 := s9) (w5 := w8) (w6 := w9) (g := g) (cap := cap) (b := 0) M.out.drewM HE.out StAt.frames szB hBw2 g8 (HR.out.frame (w' := w42.drew) StAt.frames fun i hi _ => ⟨hi, rfl⟩) ⟨_, rfl, hx1⟩ rfl (by simp [exV, stV, slV, Value.oneCell']) (by rw [← HN2.out]; exact hown9) hgr9 (hat9.imp id fun e => by rw [e]; simp)
        have hbes := row_beside (i := 11) (X := X) (u := .slice (some ⟨g, 0, none⟩) (vn + 1) cap) (ExAt.frames 5) HRow.out (R := E.R) (by omega) (Nat.lt_succ_self X) hBw2 ((Kept.refl E.R w42).drew.trans g8.kept) (v := .slice va vn vc) (fun i hi => HR.out.blk i hi) hgr9
        rw [← HN2.out] at hmore
        have HM := Lib.hid hmore
        have HBes := Lib.hid hbes
        have hsz9 : Hid (B ≤ w9.heap.size) := by have := hgr9.size; have := g8.kept.size; simp at *; unfold Hid; omega
        have hr8 := Lib.hid r8
        clear hmore hbes hx1 r8 g8 hown9 hgrow9 hgr9 hat9 hown8
        go_wp2_with fail
        go_roundw
        case rel => exact ⟨ys ++ [x1], some ⟨g, 0, none⟩, vn + 1, cap, s9, by rw [List.length_append, HN2.out]; rfl, by rw [List.length_append, ← HN2.out]; simp; omega, by have := hsz9.out; simpa using this, HBes.out, HM.out.2, HM.out.1, HLeft.out.more hbg.out (by rw [← HN2.out]; exact h6') hr8.out⟩
        case measure =>
          have h1 := cellLen_of (by rw [cell_blk HM.out.1.loc]; rfl : World.cell? _ ⟨X, 11, none⟩ = some (.slice (some ⟨g, 0, none⟩) (vn + 1) cap))
          rw [HCL.out, h1]; omega
end Go.Proofs.YtmhpopkbmnhkkaaGreatDoor
