import Derived.Test.YtmhpopkbmnhkkaaGreatDoorQRpEf
/- joustref02: a card. -/
namespace Go.Proofs.YtmhpopkbmnhkkaaGreatDoor
open Go.RowKit Go.Lib

def RCdEnds (p : Par Cd) (E : REnv) (s : RS) (w : World) (e : Ending) (w' : World) : Prop := ∃ (x : Cd) (va : Option Addr) (vn vc : Nat) (s' : RS),
  e = .returned (.agg #[.string x.name, .int .u8 x.kind, .int .i64 x.level, .int .i64 x.attack, .int .i64 x.guard, .slice va vn vc]) ∧ CdAt w' (From w.heap.size) (cdV x (.slice va vn vc)) x ∧ Res p s x s' ∧ RGoes w E s' w'
def cdA (nm : ByteArray) (k : Nat) (l a g : Int) (v : Value) : Array Value := #[.string nm, .int .u8 k, .int .i64 l, .int .i64 a, .int .i64 g, v]
def cdZ : Array Value := cdA ⟨#[]⟩ 0 0 0 0 (.slice none 0 0)

set_option maxHeartbeats 8000000 in
set_option maxRecDepth 100000 in
theorem rcard_any (E : REnv) (s : RS) (w : World) (h : RR w E s) :
    Calls Tryz.prog 38 #[.pointer (some ⟨E.R, 0, none⟩)] w (RCdEnds (pCard E.ts) E s w) := by
  have HE := Lib.hid h.both
  have GG := Lib.hid (RGoes.start h)
  have hlt := h.lt
  obtain ⟨j0, hj0, hy0, hy1, hy2⟩ := info_parts Tryz.effectInfo
  clear h
  go_enter Tryz.func38, Tryz.ntmps38
  go_wp2_with fail
  refine (rKinds_any E.R _ (by simp; omega)).mono ?_
  rintro e w1 ⟨v1, rfl, hv1, b1⟩
  have HV := Lib.hid hv1
  obtain ⟨wa, wn, wc, rfl⟩ := hv1.form
  have HB : Hid (w1.heap[w.heap.size]? = some (.cells cdZ 38 (0, 0))) := by refine (b1.block _ (by simp)).trans ?_; exact heap_alloc_new _ _
  replace GG := Lib.hid (RGoes.below (w := w) (E := E) (s := s) (by repeat (first | (with_reducible exact GG.out) | (with_reducible refine RGoes.alloc ?_ _) | (with_reducible refine RGoes.drew ?_) | ((with_reducible refine RGoes.store ?_ HE.out ?_ _); rotate_left; focus (first | (simp; done) | (simp; omega) | omega)))) b1)
  have sz1 : w.heap.size < w1.heap.size := heap_lt HB.out
  clear b1 hv1
  go_wp2_with fail
  refine (rone_any E s _ _ kindsW wdy_kinds HV.out (RGoes.rd (w := w) (by repeat (first | (with_reducible exact GG.out) | (with_reducible refine RGoes.alloc ?_ _) | (with_reducible refine RGoes.drew ?_) | ((with_reducible refine RGoes.store ?_ HE.out ?_ _); rotate_left; focus (first | (simp; done) | (simp; omega) | omega)))))).mono ?_
  rintro e w2 ⟨k, s2, rfl, r2, l2, g2⟩
  replace HB := Lib.hid (g2.kept.heap (k := w.heap.size) (by omega) HB.out)
  replace GG := Lib.hid (RGoes.trans (w := w) (E := E) (s := s) (by repeat (first | (with_reducible exact GG.out) | (with_reducible refine RGoes.alloc ?_ _) | (with_reducible refine RGoes.drew ?_) | ((with_reducible refine RGoes.store ?_ HE.out ?_ _); rotate_left; focus (first | (simp; done) | (simp; omega) | omega)))) g2)
  have sz2 : w.heap.size < w2.heap.size := heap_lt HB.out
  have R2 := Lib.hid r2
  clear r2 l2 g2 HV
  have M0 := Lib.hid (Mid.new GG.out HB.out (cdA ⟨#[]⟩ k 0 0 0 (.slice none 0 0)))
  obtain ⟨X, hX⟩ : ∃ X, X = w2.heap.size := ⟨_, rfl⟩
  have M : Hid (Mid E w (w2.alloc (.cells (cdA ⟨#[]⟩ k 0 0 0 (.slice none 0 0)) 38)) s2 38 cdZ X (cdA ⟨#[]⟩ k 0 0 0 (.slice none 0 0))) := by rw [hX]; exact M0
  have szX : w.heap.size < X := by omega
  clear HB GG M0
  go_wp2_with fail
  refine (rname_any E s2 _ M.out.goes.rd).mono ?_
  rintro e w3 ⟨nm, s3, rfl, r3, g3⟩
  replace M := Lib.hid (M.out.call HE.out g3)
  have R3 := Lib.hid r3
  have HXX := Lib.hid hX
  rw [← hX]
  have t0 := cell_blk (i := 0) M.out.loc
  have f0 := free_blk (i := 0) M.out.loc
  have t1 := cell_blk (i := 1) M.out.loc
  simp [cdA] at t0 t1
  have szw : X < w3.heap.size := M.out.lt
  replace M := Lib.hid ((M.out.set HE.out 0 (.string nm)).as (x' := cdA nm k 0 0 0 (.slice none 0 0)) rfl)
  clear r3 g3 hX
  go_upto_if 13 with fail
  go_cut [13] (fun s13 wx => ∃ (u : Int × Int × Int) (s4 : RS), Res (pUnit E.ts k) s3 u s4 ∧ Mid E w wx s4 38 cdZ X (cdA nm k u.1 u.2.1 u.2.2 (.slice none 0 0)))
  case first =>
    by_cases hk : k = 0
    · subst hk
      go_wp2_with fail
      refine (rnum_any E s3 _ M.out.goes.rd).mono ?_
      rintro e w4 ⟨a1, s4, rfl, r4, g4⟩
      replace M := Lib.hid (M.out.call HE.out g4)
      have t4 := cell_blk (i := 2) M.out.loc
      have f4 := free_blk (i := 2) M.out.loc
      simp [cdA] at t4
      replace M := Lib.hid ((M.out.set HE.out 2 (.int .i64 a1)).as (x' := cdA nm 0 a1 0 0 (.slice none 0 0)) rfl)
      have R4 := Lib.hid r4
      clear r4 g4 t0 t1 f0
      go_wp2_with fail
      refine (rnum_any E s4 _ M.out.goes.rd).mono ?_
      rintro e w5 ⟨a2, s5, rfl, r5, g5⟩
      replace M := Lib.hid (M.out.call HE.out g5)
      have t5 := cell_blk (i := 3) M.out.loc
      have f5 := free_blk (i := 3) M.out.loc
      simp [cdA] at t5
      replace M := Lib.hid ((M.out.set HE.out 3 (.int .i64 a2)).as (x' := cdA nm 0 a1 a2 0 (.slice none 0 0)) rfl)
      have R5 := Lib.hid r5
      clear r5 g5 t4 f4
      go_wp2_with fail
      refine (rnum_any E s5 _ M.out.goes.rd).mono ?_
      rintro e w6 ⟨a3, s6, rfl, r6, g6⟩
      replace M := Lib.hid (M.out.call HE.out g6)
      have t6 := cell_blk (i := 4) M.out.loc
      have f6 := free_blk (i := 4) M.out.loc
      simp [cdA] at t6
      have R6 := Lib.hid r6
      clear r6 g6 t5 f5
      go_wp2_with fail
      go_meet
      exact ⟨(a1, a2, a3), s6, Res.bind R4.out (Res.bind R5.out (Res.map _ R6.out)), (M.out.set HE.out 4 (.int .i64 a3)).as rfl⟩
    · have hk2 : ((k : Int) == 0) = false := by simp; omega
      have HK := Lib.hid hk
      clear hk
      go_wp2_with fail
      go_meet
      exact ⟨(0, 0, 0), s3, by unfold pUnit; rw [if_neg HK.out]; exact Res.pure _ _, M.out⟩
  case rest =>
  clear M t0 t1 f0 szw
  obtain ⟨⟨lv, at', gd⟩, s4, r4, m4⟩ := hcut
  have M := Lib.hid m4
  have R4 := Lib.hid r4
  clear m4 r4
  go_wp2_with fail
  refine (rtake_any E s4 _ ⟨#[123]⟩ (by rfl) M.out.goes.rd).mono ?_
  rintro e w5 ⟨rfl, s5, r5, g5⟩
  replace M := Lib.hid (M.out.call HE.out g5)
  have R5 := Lib.hid r5
  clear r5 g5
  go_wp2_with fail
  go_loopw [27] (fun _ wr => ∃ (ys : List Ef) (va : Option Addr) (vn vc : Nat) (s8 : RS), vn = ys.length ∧ ys.length ≤ 4 ∧ RowAt wr (From (X + 1)) 43 12 EfAt (.slice va vn vc) ys ∧ Mid E w wr s8 38 cdZ X (cdA nm k lv at' gd (.slice va vn vc)) ∧ Left E.ts (inW modesW) (pEffect E.ts) 4 s5 ys s8)
    (fun _ wr => 4 - cellLen wr ⟨X, 5, none⟩)
  case atStart => exact ⟨[], none, 0, 0, s5, rfl, Nat.zero_le _, RowAt.nil _ _ _ _ _, M.out, Left.start 4 s5⟩
  case round =>
  clear M
  obtain ⟨ys, va, vn, vc, s8, hn, hle, hst, mm, hleft⟩ := hrel
  have M := Lib.hid mm
  have HSt := Lib.hid hst
  have HLeft := Lib.hid hleft
  have HN2 := Lib.hid hn
  have hn6 : vn ≤ 4 := by omega
  have hcl := cellLen_of (by rw [cell_blk mm.loc]; rfl : wr.cell? ⟨X, 5, none⟩ = some (.slice va vn vc))
  have HCL := Lib.hid hcl
  clear mm hst hleft hn hle hcl
  go_wp2_with fail
  refine (rModes_any E.R _ M.out.goes.rd.lt).mono ?_
  rintro e w41 ⟨v41, rfl, hv41, b41⟩
  have HV := Lib.hid hv41
  obtain ⟨wa, wn, wc, rfl⟩ := hv41.form
  replace M := Lib.hid (M.out.below b41)
  replace HSt := Lib.hid (row_below EfAt.frames HSt.out b41)
  clear b41 hv41
  go_wp2_with fail
  refine (ramong_any E s8 _ _ modesW wdy_modes HV.out M.out.goes.rd).mono ?_
  rintro e w42 ⟨rfl, g42⟩
  replace M := Lib.hid (M.out.call HE.out g42)
  replace HSt := Lib.hid (row_kept EfAt.frames HSt.out g42.kept (fun i hi => by unfold From at hi; omega))
  have szw : X < w42.heap.size := M.out.lt
  clear g42 HV
  cases hb : amongW E s8 modesW with
  | false =>
    have RS8 : Hid (Res (pMany E.ts (inW modesW) (pEffect E.ts) 4 []) s5 ys s8) := HLeft.out.doneR (fun q hq => by subst hq; exact hb)
    clear hb HLeft HCL
    go_wp2_with fail
    refine (rtake_any E s8 _ ⟨#[125]⟩ (by rfl) M.out.goes.rd).mono ?_
    rintro e w9 ⟨rfl, s9, r9, g9⟩
    replace M := Lib.hid (M.out.call HE.out g9)
    replace HSt := Lib.hid (row_kept EfAt.frames HSt.out g9.kept (fun i hi => by unfold From at hi; omega))
    have szw9 : X < w9.heap.size := M.out.lt
    have R9 := Lib.hid r9
    have hB : w9.heap[w.heap.size]? = some (.cells #[.string ⟨#[]⟩, .int .u8 0, .int .i64 0, .int .i64 0, .int .i64 0, .slice none 0 0] 38 (0, 0)) := M.out.res
    have hX : w9.heap[X]? = some (.cells #[.string nm, .int .u8 k, .int .i64 lv, .int .i64 at', .int .i64 gd, .slice va vn vc] 38 (0, 0)) := M.out.loc
    have GG := Lib.hid M.out.goes
    have e0 := cell_blk (i := 0) hB; have e1 := cell_blk (i := 1) hB; have e2 := cell_blk (i := 2) hB; have e3 := cell_blk (i := 3) hB; have e4 := cell_blk (i := 4) hB; have e5 := cell_blk (i := 5) hB; have ef0 := free_blk (i := 0) hB; have ef1 := free_blk (i := 1) hB; have ef2 := free_blk (i := 2) hB; have ef3 := free_blk (i := 3) hB; have ef4 := free_blk (i := 4) hB; have ef5 := free_blk (i := 5) hB; simp at e0 e1 e2 e3 e4 e5
    have cx0 := cell_blk (i := 0) hX; have cx1 := cell_blk (i := 1) hX; have cx2 := cell_blk (i := 2) hX; have cx3 := cell_blk (i := 3) hX; have cx4 := cell_blk (i := 4) hX; have cx5 := cell_blk (i := 5) hX; have cxf0 := free_blk (i := 0) hX; have cxf1 := free_blk (i := 1) hX; have cxf2 := free_blk (i := 2) hX; have cxf3 := free_blk (i := 3) hX; have cxf4 := free_blk (i := 4) hX; have cxf5 := free_blk (i := 5) hX; simp at cx0 cx1 cx2 cx3 cx4 cx5
    clear hB hX r9 g9
    go_wp2
    refine bodyPost_ret (v := .agg #[.string nm, .int .u8 k, .int .i64 lv, .int .i64 at', .int .i64 gd, .slice va vn vc]) (by simp [results, Tryz.results38, go_sem, e0, e1, e2, e3, e4, e5]) rfl ?_
    exact ⟨⟨nm, k, lv, at', gd, ys⟩, va, vn, vc, s9, rfl, ⟨_, rfl, row_widen EfAt.frames (row_ab (w := w9) (B := X + 1) EfAt.frames HSt.out (by repeat (first | (with_reducible exact Above.refl _ _) | (with_reducible refine Above.alloc ?_ _) | (with_reducible refine Above.drew ?_) | ((with_reducible refine Above.setCell ?_ ?_ _); rotate_left; focus (first | (simp; done) | (simp; omega) | omega)))) (fun k hk => hk)) (fun k hk _ => by unfold From at *; omega)⟩, Res.bind R2.out (Res.bind R3.out (Res.bind R4.out (Res.bind R5.out (Res.bind RS8.out (Res.map _ R9.out))))), (by repeat (first | (with_reducible exact GG.out) | (with_reducible refine RGoes.alloc ?_ _) | (with_reducible refine RGoes.drew ?_) | ((with_reducible refine RGoes.store ?_ HE.out ?_ _); rotate_left; focus (first | (simp; done) | (simp; omega) | omega))))⟩
  | true =>
    obtain ⟨q, rfl, hbq⟩ : ∃ q, s8 = .ok q ∧ inW modesW (tk E.ts q) = true := by
      cases s8 with
      | ok q => exact ⟨q, rfl, hb⟩
      | bad _ _ _ => cases hb
    have hbg := Lib.hid hbq
    have t3 : w42.cell? ⟨X, 5, none⟩ = some (.slice va vn vc) := by rw [cell_blk M.out.loc]; rfl
    have f3 : w42.frozen? ⟨X, 5, none⟩ = false := free_blk M.out.loc
    clear hb hbq
    by_cases h6 : vn = 4
    · subst h6
      go_wp2_with fail
      refine (rfails_any E _ _ 3 (by decide) M.out.goes.rd).mono ?_
      rintro e w6 ⟨rfl, g6⟩
      replace M := Lib.hid (M.out.call HE.out g6)
      replace HSt := Lib.hid (row_kept EfAt.frames HSt.out g6.kept (fun i hi => by unfold From at hi; omega))
      have szw6 : X < w6.heap.size := M.out.lt
      have hfull : Hid (Res (pMany E.ts (inW modesW) (pEffect E.ts) 4 []) s5 ys (RS.failR E 3 (.ok q))) := HLeft.out.fullR hbg.out HN2.out.symm ys
      have hB : w6.heap[w.heap.size]? = some (.cells #[.string ⟨#[]⟩, .int .u8 0, .int .i64 0, .int .i64 0, .int .i64 0, .slice none 0 0] 38 (0, 0)) := M.out.res
      have hX : w6.heap[X]? = some (.cells #[.string nm, .int .u8 k, .int .i64 lv, .int .i64 at', .int .i64 gd, .slice va 4 vc] 38 (0, 0)) := M.out.loc
      have GG := Lib.hid M.out.goes
      have e0 := cell_blk (i := 0) hB; have e1 := cell_blk (i := 1) hB; have e2 := cell_blk (i := 2) hB; have e3 := cell_blk (i := 3) hB; have e4 := cell_blk (i := 4) hB; have e5 := cell_blk (i := 5) hB; have ef0 := free_blk (i := 0) hB; have ef1 := free_blk (i := 1) hB; have ef2 := free_blk (i := 2) hB; have ef3 := free_blk (i := 3) hB; have ef4 := free_blk (i := 4) hB; have ef5 := free_blk (i := 5) hB; simp at e0 e1 e2 e3 e4 e5
      have cx0 := cell_blk (i := 0) hX; have cx1 := cell_blk (i := 1) hX; have cx2 := cell_blk (i := 2) hX; have cx3 := cell_blk (i := 3) hX; have cx4 := cell_blk (i := 4) hX; have cx5 := cell_blk (i := 5) hX; have cxf0 := free_blk (i := 0) hX; have cxf1 := free_blk (i := 1) hX; have cxf2 := free_blk (i := 2) hX; have cxf3 := free_blk (i := 3) hX; have cxf4 := free_blk (i := 4) hX; have cxf5 := free_blk (i := 5) hX; simp at cx0 cx1 cx2 cx3 cx4 cx5
      clear g6 t3 f3 hB hX
      go_wp2
      refine bodyPost_ret (v := .agg #[.string nm, .int .u8 k, .int .i64 lv, .int .i64 at', .int .i64 gd, .slice va 4 vc]) (by simp [results, Tryz.results38, go_sem, e0, e1, e2, e3, e4, e5]) rfl ?_
      exact ⟨⟨nm, k, lv, at', gd, ys⟩, va, 4, vc, RS.failR E 3 (.ok q), rfl, ⟨_, rfl, row_widen EfAt.frames (row_ab (w := w6) (B := X + 1) EfAt.frames HSt.out (by repeat (first | (with_reducible exact Above.refl _ _) | (with_reducible refine Above.alloc ?_ _) | (with_reducible refine Above.drew ?_) | ((with_reducible refine Above.setCell ?_ ?_ _); rotate_left; focus (first | (simp; done) | (simp; omega) | omega)))) (fun k hk => hk)) (fun k hk _ => by unfold From at *; omega)⟩, Res.bind R2.out (Res.bind R3.out (Res.bind R4.out (Res.bind R5.out (Res.bind hfull.out rfl)))), (by repeat (first | (with_reducible exact GG.out) | (with_reducible refine RGoes.alloc ?_ _) | (with_reducible refine RGoes.drew ?_) | ((with_reducible refine RGoes.store ?_ HE.out ?_ _); rotate_left; focus (first | (simp; done) | (simp; omega) | omega))))⟩
    · have h6' : vn < 4 := by omega
      obtain ⟨css, hrow⟩ := HSt.out
      have HR := Lib.hid hrow
      clear hrow h6
      go_wp2_with fail
      go_region_law (first
        | (refine step_append_lies _ (by rfl) _ _ _ (by rfl) 0 43 j0 _ 12 96 Tryz.underlying36 hj0 hy0 hy1 hy2 rfl (by omega) _ vn css.flatten (by rfl) hown8 ⟨w8.heap.size, 0, none⟩ 1 1 (efV x1 (.slice ca1 cn1 cc1) (.slice va1 vn1 vc1)) (by rfl) (by rfl) (World.news_of_block (cs := (efV x1 (.slice ca1 cn1 cc1) (.slice va1 vn1 vc1)).toArray) (t := 43) (fr := (0, 0)) (heap_alloc_new _ _)) (by simp [efV, Value.oneCell']) (by omega) (by unfold maxLen; omega) (by omega) (Nat.zero_le _) _ rfl ?_; intro g cap w9 hown9 hgrow9 hat9 hlt9; have hgr9 : World.grownBy _ w9 (Value.slice va vn vc).ownBlock := hgrow9; have hX9 := (hgr9.block X (by simp; omega) (fun e => by have := HR.out.blk _ e.symm; unfold From at this; omega)).trans (heap_old hX8); have cX9 : w9.cell? ⟨X, 5, none⟩ = some (.slice va vn vc) := (by rw [cell_blk hX9]; rfl); have fX9 : w9.frozen? ⟨X, 5, none⟩ = false := free_blk hX9)
        | (go_simp; go_at_call 78; refine (reffect_any E _ _ M.out.goes.drew.rd).mono ?_; rintro e w8 ⟨x1, ca1, cn1, cc1, va1, vn1, vc1, s9, rfl, hx1, r8, g8⟩;
           have hX8 := (g8.kept.heap (by have := HE.out.2; omega) (heap_drew M.out.loc));
           have cX8 : w8.cell? ⟨X, 5, none⟩ = some (.slice va vn vc) := (by rw [cell_blk hX8]; rfl); have lX8 : X < w8.heap.size := heap_lt hX8; have nX8 : X ≠ w8.heap.size := Nat.ne_of_lt lX8;
           have hown8 : (w8.alloc (.cells #[.int .u8 x1.mode, .int .u8 x1.ev, .int .u8 x1.side, .slice ca1 cn1 cc1, .int .i64 x1.pay, .int .i64 x1.discard, .bool x1.tribute, .int .i64 x1.pick, .int .u8 x1.sel.side, .int .u8 x1.sel.zone, .int .u8 x1.sel.kind, .slice va1 vn1 vc1] 43)).ownsRow 0 43 12 (.slice va vn vc) vn css.flatten := (by
             have h0 := ownsRow_same (b := 0) HR.out.own (w' := w8.alloc (.cells #[.int .u8 x1.mode, .int .u8 x1.ev, .int .u8 x1.side, .slice ca1 cn1 cc1, .int .i64 x1.pay, .int .i64 x1.discard, .bool x1.tribute, .int .i64 x1.pick, .int .u8 x1.sel.side, .int .u8 x1.sel.zone, .int .u8 x1.sel.kind, .slice va1 vn1 vc1] 43)) (fun i hi => (Below.heap_alloc _ _ _ (Nat.lt_of_lt_of_le (HR.out.own.lt i hi).2 g8.kept.size)).trans (g8.kept.block i (HR.out.own.lt i hi).2 (by have := HR.out.blk i hi; unfold From at this; have := HE.out.2; omega)))
             rw [← HN2.out] at h0
             exact h0)))
      all_goals
        have hmore := Mid.more (i := 5) (x1 := x1) (c1 := efV x1 (.slice ca1 cn1 cc1) (.slice va1 vn1 vc1)) (s3 := s9) (w5 := w8) (w6 := w9) (g := g) (cap := cap) (b := 0) M.out.drewM HE.out EfAt.frames (Nat.lt_succ_self X) szw g8 (HR.out.frame (w' := w42.drew) EfAt.frames fun i hi _ => ⟨hi, rfl⟩) hx1 rfl (by simp [efV, Value.oneCell']) (by rw [← HN2.out]; exact hown9) hgr9 (hat9.imp id fun e => by rw [e]; simp)
        rw [← HN2.out] at hmore
        have HM := Lib.hid hmore
        have hr8 := Lib.hid r8
        clear hmore hx1 r8 g8 hown9 hgrow9 hgr9 hat9 hown8
        go_wp2_with fail
        go_roundw
        case rel => exact ⟨ys ++ [x1], some ⟨g, 0, none⟩, vn + 1, cap, s9, by rw [List.length_append, HN2.out]; rfl, by rw [List.length_append, ← HN2.out]; simp; omega, HM.out.2, HM.out.1, HLeft.out.more hbg.out (by rw [← HN2.out]; exact h6') hr8.out⟩
        case measure =>
          have h1 := cellLen_of (by rw [cell_blk HM.out.1.loc]; rfl : World.cell? _ ⟨X, 5, none⟩ = some (.slice (some ⟨g, 0, none⟩) (vn + 1) cap))
          rw [HCL.out, h1]; omega
end Go.Proofs.YtmhpopkbmnhkkaaGreatDoor
