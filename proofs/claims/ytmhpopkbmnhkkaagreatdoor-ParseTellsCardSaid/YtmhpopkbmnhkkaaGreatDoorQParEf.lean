import Derived.Test.YtmhpopkbmnhkkaaGreatDoorQParEff
import Derived.Test.YtmhpopkbmnhkkaaGreatDoorQParM
/- Layer 2 (parse): an effect is read. -/
namespace Go.Proofs.YtmhpopkbmnhkkaaGreatDoor
open Go.RowKit Go.Lib

set_option maxHeartbeats 4000000 in
set_option maxRecDepth 100000 in
theorem effect_any (E : Env) (s : RS) (w : World) (h : Rd w E s 0) :
    Calls Tryz.prog 69 #[.pointer (some ⟨E.R, 0, none⟩)] w (EfEnds (pEffect E.ts) E s w) := by
  have HE := Lib.hid h.both
  have hlt := h.lt
  have M0 : Hid (EfMid E w ((w.alloc (.cells EfC.zero.cells 43)).alloc (.cells EfC.zero.cells 43)) s EfC.zero) := by
    have GG := Lib.hid (Goes.start h)
    exact ⟨(by repeat (first | (with_reducible exact GG.out) | (with_reducible refine Goes.alloc ?_ _) | (with_reducible refine Goes.drew ?_) | ((with_reducible refine Goes.store ?_ HE.out ?_ _); rotate_left; focus (first | (simp; done) | (simp; omega) | omega)))), heap_old (heap_alloc_new _ _), heap_new_at _ _ _ (by simp)⟩
  clear h
  go_enter Tryz.func69, Tryz.ntmps69
  go_wp2_with fail
  refine (modes_any E.R _ (by simp; omega)).mono ?_
  rintro e w1 ⟨v1, rfl, hv1, b1⟩
  have M1 := Lib.hid (M0.out.below b1)
  have HV := Lib.hid hv1
  have hfm : ∃ a n c, v1 = .slice a n c := by obtain ⟨b, c, hv, -⟩ := hv1; exact ⟨_, _, _, hv⟩
  obtain ⟨a1, n1, c1, rfl⟩ := hfm
  clear hv1 b1
  go_wp2_with fail
  refine (oneOf_any E s 0 _ _ modesW wordy_modes HV.out M1.out.goes.rd).mono ?_
  rintro e w2 ⟨m, s2, rfl, r2, l2, g2⟩
  have M2 := Lib.hid (M1.out.call HE.out g2)
  have t0 := M2.out.cell 0 _ rfl
  have f0 := M2.out.free 0
  have R2 := Lib.hid r2
  clear r2 l2 g2
  have M3 := Lib.hid (M2.out.set HE.out 0 (.int .u8 m) { EfC.zero with m := m } rfl)
  go_wp2_with fail
  refine (skip_any E s2 0 _ ⟨#[117, 112, 111, 110]⟩ (by decide) M3.out.goes.rd).mono ?_
  rintro e w3 ⟨b3, s3, rfl, r3, g3⟩
  have M4 := Lib.hid (M3.out.call HE.out g3)
  have R3 := Lib.hid r3
  clear r3 g3
  go_upto_if 9 with fail
  go_cut [9] (fun s9 wx => ∃ (u : Nat × Nat) (s4 : RS), Res (pUpon E.ts) s2 u s4 ∧ EfMid E w wx s4 { EfC.zero with m := m, ev := u.1, sd := u.2 })
  case first =>
    cases b3 with
    | false =>
      go_wp2_with fail
      go_meet
      exact ⟨(0, 0), s3, Res.opt_no R3.out, M4.out⟩
    | true =>
      go_wp2_with fail
      refine (event_any E s3 0 _ M4.out.goes.rd).mono ?_
      rintro e w4 ⟨ev, s4, rfl, r4, l4, g4⟩
      have M5 := Lib.hid (M4.out.call HE.out g4)
      have t1 := M5.out.cell 1 _ rfl
      have f1 := M5.out.free 1
      have R4 := Lib.hid r4
      clear r4 l4 g4
      obtain ⟨ev1, hev⟩ : ∃ e, e = ev + 1 := ⟨_, rfl⟩
      rw [← hev]
      have HEv := Lib.hid hev
      clear hev
      have M6 := Lib.hid (M5.out.set HE.out 1 (.int .u8 ev1) { EfC.zero with m := m, ev := ev1 } rfl)
      go_wp2_with fail
      refine (side_any E s4 0 _ M6.out.goes.rd).mono ?_
      rintro e w5 ⟨sd, s5, rfl, r5, l5, g5⟩
      have M7 := Lib.hid (M6.out.call HE.out g5)
      have t2 := M7.out.cell 2 _ rfl
      have f2 := M7.out.free 2
      have R5 := Lib.hid r5
      clear r5 l5 g5
      go_wp2_with fail
      go_meet
      exact ⟨(ev1, sd), s5, Res.opt_yes R3.out (by rw [HEv.out]; exact Res.bind R4.out (Res.map _ R5.out)), M7.out.set HE.out 2 (.int .u8 sd) _ rfl⟩
  case rest =>
    obtain ⟨u, s4, r4, m4⟩ := hcut
    obtain ⟨ev, sd⟩ := u
    have M := Lib.hid m4
    have R4 := Lib.hid r4
    have szc := m4.lt
    clear m4 r4
    go_wp2_with fail
    refine (oneWord_any E.R _ _ [⟨#[110, 101, 101, 100, 115]⟩] (words_needs _ E.R _ rfl (by omega)) (by simp; omega)).mono ?_
    rintro e w5 ⟨tA, rfl, ht, b5⟩
    have M5 := Lib.hid (M.out.below (((Below.refl _ _).alloc (Nat.le_refl _) _).trans (b5.mono (by simp))))
    have HT := Lib.hid ht
    have sz5 : w.heap.size + 2 ≤ w5.heap.size := M5.out.lt
    clear ht b5
    go_wp2_with fail
    refine (many_needs E s4 w5 6 tA (inW [⟨#[110, 101, 101, 100, 115]⟩]) (pNeed E.ts) (by omega) (inW_end _ (by decide)) (fun W s k tx l c g => tells_word E.R tA W [⟨#[110, 101, 101, 100, 115]⟩] (by decide) (HT.out.kept g.kept) k tx l c) (fun W s g _ => need_any E s W g.rd) M5.out.goes.rd).mono ?_
    rintro e w6 ⟨xs, a6, n6, c6, s6, rfl, hrow, r6, g6⟩
    have M6 := Lib.hid (M5.out.call HE.out g6)
    have t3 := M6.out.cell 3 _ rfl
    have f3 := M6.out.free 3
    have R6 := Lib.hid r6
    have M := Lib.hid (M6.out.set HE.out 3 (.slice a6 n6 c6) { EfC.zero with m := m, ev := ev, sd := sd, ca := a6, cn := n6, cc := c6 } rfl)
    have HRow := Lib.hid (row_above (w' := w6.setCell ⟨w.heap.size + 1, 3, none⟩ (.slice a6 n6 c6)) (B' := w.heap.size + 2) (ExAt.frames 5) hrow ((Above.refl _ _).setCell (by simp; omega) _) sz5)
    clear r6 g6 hrow
    go_wp2_with fail
    refine (skip_any E s6 0 _ ⟨#[112, 97, 121, 115]⟩ (by decide) M.out.goes.rd).mono ?_
    rintro e w20 ⟨b20, s20, rfl, r20, g20⟩
    have HRow := Lib.hid (row_above (w' := w20) (ExAt.frames 5) HRow.out ((Above.refl _ _).kept g20.kept (by omega)) (Nat.le_refl _))
    have M := Lib.hid (M.out.call HE.out g20)
    have R20 := Lib.hid r20
    clear r20 g20
    go_upto_if 24 with fail
    go_cut [24] (fun s24 wx => ∃ (pay : Int) (s7 : RS), Res (pOpt E.ts ⟨#[112, 97, 121, 115]⟩ (pNum E.ts) 0) s6 pay s7 ∧ EfMid E w wx s7 { EfC.zero with m := m, ev := ev, sd := sd, ca := a6, cn := n6, cc := c6, pay := pay } ∧ RowAt wx (From (w.heap.size + 2)) 46 7 (ExAt 5) (.slice a6 n6 c6) xs)
    case first =>
      cases b20 with
      | false =>
        go_wp2_with fail
        go_meet
        exact ⟨0, s20, Res.opt_no R20.out, M.out, HRow.out⟩
      | true =>
        go_wp2_with fail
        refine (number_any E s20 0 _ M.out.goes.rd).mono ?_
        rintro e w9 ⟨v9, s9, rfl, r9, g9⟩
        have M9 := Lib.hid (M.out.call HE.out g9)
        have t9 := M9.out.cell 4 _ rfl
        have f9 := M9.out.free 4
        have HRow9 := Lib.hid (row_above (w' := w9) (ExAt.frames 5) HRow.out ((Above.refl _ _).kept g9.kept (by omega)) (Nat.le_refl _))
        have R9 := Lib.hid r9
        clear r9 g9
        go_wp2_with fail
        go_meet
        exact ⟨v9, s9, Res.opt_yes R20.out R9.out, M9.out.set HE.out 4 (.int .i64 v9) _ rfl, row_above (w := w9) (B := w.heap.size + 2) (ExAt.frames 5) HRow9.out (by repeat (first | (with_reducible exact Above.refl _ _) | (with_reducible refine Above.alloc ?_ _) | (with_reducible refine Above.drew ?_) | ((with_reducible refine Above.setCell ?_ ?_ _); rotate_left; focus (first | (simp; done) | (simp; omega) | omega)))) (Nat.le_refl _)⟩
    case rest =>
    obtain ⟨pay, s20c, r20c, m20, hrow20⟩ := hcut
    have M := Lib.hid m20
    have HRow := Lib.hid hrow20
    have R20c := Lib.hid r20c
    clear m20 r20c hrow20
    go_wp2_with fail
    refine (skip_any E s20c 0 _ ⟨#[100, 114, 111, 112, 115]⟩ (by decide) M.out.goes.rd).mono ?_
    rintro e w21 ⟨b21, s21, rfl, r21, g21⟩
    have HRow := Lib.hid (row_above (w' := w21) (ExAt.frames 5) HRow.out ((Above.refl _ _).kept g21.kept (by omega)) (Nat.le_refl _))
    have M := Lib.hid (M.out.call HE.out g21)
    have R21 := Lib.hid r21
    clear r21 g21
    go_upto_if 29 with fail
    go_cut [29] (fun s29 wx => ∃ (dr : Int) (s7 : RS), Res (pOpt E.ts ⟨#[100, 114, 111, 112, 115]⟩ (pNum E.ts) 0) s20c dr s7 ∧ EfMid E w wx s7 { EfC.zero with m := m, ev := ev, sd := sd, ca := a6, cn := n6, cc := c6, pay := pay, dr := dr } ∧ RowAt wx (From (w.heap.size + 2)) 46 7 (ExAt 5) (.slice a6 n6 c6) xs)
    case first =>
      cases b21 with
      | false =>
        go_wp2_with fail
        go_meet
        exact ⟨0, s21, Res.opt_no R21.out, M.out, HRow.out⟩
      | true =>
        go_wp2_with fail
        refine (number_any E s21 0 _ M.out.goes.rd).mono ?_
        rintro e w9 ⟨v9, s9, rfl, r9, g9⟩
        have M9 := Lib.hid (M.out.call HE.out g9)
        have t9 := M9.out.cell 5 _ rfl
        have f9 := M9.out.free 5
        have HRow9 := Lib.hid (row_above (w' := w9) (ExAt.frames 5) HRow.out ((Above.refl _ _).kept g9.kept (by omega)) (Nat.le_refl _))
        have R9 := Lib.hid r9
        clear r9 g9
        go_wp2_with fail
        go_meet
        exact ⟨v9, s9, Res.opt_yes R21.out R9.out, M9.out.set HE.out 5 (.int .i64 v9) _ rfl, row_above (w := w9) (B := w.heap.size + 2) (ExAt.frames 5) HRow9.out (by repeat (first | (with_reducible exact Above.refl _ _) | (with_reducible refine Above.alloc ?_ _) | (with_reducible refine Above.drew ?_) | ((with_reducible refine Above.setCell ?_ ?_ _); rotate_left; focus (first | (simp; done) | (simp; omega) | omega)))) (Nat.le_refl _)⟩
    case rest =>
    obtain ⟨dr, s21c, r21c, m21, hrow21⟩ := hcut
    have M := Lib.hid m21
    have HRow := Lib.hid hrow21
    have R21c := Lib.hid r21c
    clear m21 r21c hrow21
    go_wp2_with fail
    refine (skip_any E s21c 0 _ ⟨#[115, 112, 101, 110, 100, 115]⟩ (by decide) M.out.goes.rd).mono ?_
    rintro e w30 ⟨b30, s30, rfl, r30, g30⟩
    have HRow := Lib.hid (row_above (w' := w30.setCell ⟨w.heap.size + 1, 6, none⟩ (.bool b30)) (ExAt.frames 5) HRow.out (((Above.refl _ _).kept g30.kept (by omega)).setCell (by simp) _) (Nat.le_refl _))
    have M := Lib.hid (M.out.call HE.out g30)
    have t6 := M.out.cell 6 _ rfl
    have f6 := M.out.free 6
    have M := Lib.hid (M.out.set HE.out 6 (.bool b30) { EfC.zero with m := m, ev := ev, sd := sd, ca := a6, cn := n6, cc := c6, pay := pay, dr := dr, tr := b30 } rfl)
    have R30 := Lib.hid r30
    clear r30 g30
    go_wp2_with fail
    refine (skip_any E s30 0 _ ⟨#[112, 105, 99, 107, 115]⟩ (by decide) M.out.goes.rd).mono ?_
    rintro e w31 ⟨b31, s31, rfl, r31, g31⟩
    have HRow := Lib.hid (row_above (w' := w31) (ExAt.frames 5) HRow.out ((Above.refl _ _).kept g31.kept (by omega)) (Nat.le_refl _))
    have M := Lib.hid (M.out.call HE.out g31)
    have R31 := Lib.hid r31
    clear r31 g31
    go_upto_if 37 with fail
    go_cut [37] (fun s37 wx => ∃ (pk : Int × Sl) (s7 : RS), Res (pPicks E.ts) s30 pk s7 ∧ EfMid E w wx s7 { EfC.zero with m := m, ev := ev, sd := sd, ca := a6, cn := n6, cc := c6, pay := pay, dr := dr, tr := b30, pk := pk.1, k1 := pk.2.side, k2 := pk.2.zone, k3 := pk.2.kind } ∧ RowAt wx (From (w.heap.size + 2)) 46 7 (ExAt 5) (.slice a6 n6 c6) xs)
    case first =>
      cases b31 with
      | false =>
        go_wp2_with fail
        go_meet
        exact ⟨(0, .zero), s31, Res.opt_no R31.out, M.out, HRow.out⟩
      | true =>
        go_wp2_with fail
        refine (number_any E s31 0 _ M.out.goes.rd).mono ?_
        rintro e w9 ⟨v9, s9, rfl, r9, g9⟩
        have M9 := Lib.hid (M.out.call HE.out g9)
        have t9 := M9.out.cell 7 _ rfl
        have f9 := M9.out.free 7
        have HRow9 := Lib.hid (row_above (w' := w9.setCell ⟨w.heap.size + 1, 7, none⟩ (.int .i64 v9)) (ExAt.frames 5) HRow.out (((Above.refl _ _).kept g9.kept (by omega)).setCell (by simp) _) (Nat.le_refl _))
        have M9 := Lib.hid (M9.out.set HE.out 7 (.int .i64 v9) { EfC.zero with m := m, ev := ev, sd := sd, ca := a6, cn := n6, cc := c6, pay := pay, dr := dr, tr := b30, pk := v9 } rfl)
        have R9 := Lib.hid r9
        clear r9 g9
        go_wp2_with fail
        refine (sel_any E s9 0 _ M9.out.goes.rd).mono ?_
        rintro e w10 ⟨sl, s10, rfl, r10, g10⟩
        have M10 := Lib.hid (M9.out.call HE.out g10)
        have t10 := M10.out.cell 8 _ rfl
        have f10 := M10.out.free 8
        have t11 := M10.out.cell 9 _ rfl
        have f11 := M10.out.free 9
        have t12 := M10.out.cell 10 _ rfl
        have f12 := M10.out.free 10
        have HRow10 := Lib.hid (row_above (w' := w10) (ExAt.frames 5) HRow9.out ((Above.refl _ _).kept g10.kept (by omega)) (Nat.le_refl _))
        have R10 := Lib.hid r10
        clear r10 g10
        go_wp2_with fail
        go_meet
        exact ⟨(v9, sl), s10, Res.opt_yes R31.out (Res.bind R9.out (Res.map _ R10.out)),
          ((M10.out.set HE.out 8 (.int .u8 sl.side) { EfC.zero with m := m, ev := ev, sd := sd, ca := a6, cn := n6, cc := c6, pay := pay, dr := dr, tr := b30, pk := v9, k1 := sl.side } rfl).set HE.out 9 (.int .u8 sl.zone) { EfC.zero with m := m, ev := ev, sd := sd, ca := a6, cn := n6, cc := c6, pay := pay, dr := dr, tr := b30, pk := v9, k1 := sl.side, k2 := sl.zone } rfl).set HE.out 10 (.int .u8 sl.kind) _ rfl,
          row_above (w := w10) (B := w.heap.size + 2) (ExAt.frames 5) HRow10.out (by repeat (first | (with_reducible exact Above.refl _ _) | (with_reducible refine Above.alloc ?_ _) | (with_reducible refine Above.drew ?_) | ((with_reducible refine Above.setCell ?_ ?_ _); rotate_left; focus (first | (simp; done) | (simp; omega) | omega)))) (Nat.le_refl _)⟩
    case rest =>
    obtain ⟨pk, s31c, r31c, m31, hrow31⟩ := hcut
    obtain ⟨pk, sl⟩ := pk
    have M := Lib.hid m31
    have HRow := Lib.hid hrow31
    have R31c := Lib.hid r31c
    clear m31 r31c hrow31
    go_wp2_with fail
    refine (mark_any E s31c 0 _ ⟨#[58]⟩ (by decide) M.out.goes.rd).mono ?_
    rintro e w40 ⟨rfl, s40, r40, g40⟩
    have HRow := Lib.hid (row_above (w' := w40) (ExAt.frames 5) HRow.out ((Above.refl _ _).kept g40.kept (by omega)) (Nat.le_refl _))
    have M := Lib.hid (M.out.call HE.out g40)
    have R40 := Lib.hid r40
    clear r40 g40
    go_wp2_with fail
    refine (many_steps E s40 w40 6 0 (inW stepsW) (pStep E.ts) (by omega) (inW_end _ (by decide)) (fun W s k tx l c g => beginsStep_any E s W k tx l c g.rd) (fun W s g hb => step_any E s W hb g.rd) M.out.goes.rd).mono ?_
    rintro e w41 ⟨ys, a41, n41, c41, s41, rfl, hrow41, r41, g41⟩
    have sz41 : w.heap.size + 2 ≤ w40.heap.size := M.out.lt
    have HRow := Lib.hid (row_above (w' := w41.setCell ⟨w.heap.size + 1, 11, none⟩ (.slice a41 n41 c41)) (ExAt.frames 5) HRow.out (((Above.refl _ _).kept g41.kept (by omega)).setCell (by simp) _) (Nat.le_refl _))
    have M := Lib.hid (M.out.call HE.out g41)
    have y11 := M.out.cell 11 _ rfl
    have yf11 := M.out.free 11
    have M2 := Lib.hid (M.out.set HE.out 11 (.slice a41 n41 c41) { EfC.zero with m := m, ev := ev, sd := sd, ca := a6, cn := n6, cc := c6, pay := pay, dr := dr, tr := b30, pk := pk, k1 := sl.side, k2 := sl.zone, k3 := sl.kind, va := a41, vn := n41, vc := c41 } rfl)
    have HRow2 := Lib.hid (row_above (w' := w41.setCell ⟨w.heap.size + 1, 11, none⟩ (.slice a41 n41 c41)) (B' := w.heap.size + 2) StAt.frames hrow41 ((Above.refl _ _).setCell (by simp; omega) _) sz41)
    have R41 := Lib.hid r41
    clear r41 g41 hrow41
    have y0 : w41.cell? ⟨w.heap.size + 1, 0, none⟩ = some (.int .u8 m) := M.out.cell 0 _ rfl
    have y1 : w41.cell? ⟨w.heap.size + 1, 1, none⟩ = some (.int .u8 ev) := M.out.cell 1 _ rfl
    have y2 : w41.cell? ⟨w.heap.size + 1, 2, none⟩ = some (.int .u8 sd) := M.out.cell 2 _ rfl
    have y3 : w41.cell? ⟨w.heap.size + 1, 3, none⟩ = some (.slice a6 n6 c6) := M.out.cell 3 _ rfl
    have y4 : w41.cell? ⟨w.heap.size + 1, 4, none⟩ = some (.int .i64 pay) := M.out.cell 4 _ rfl
    have y5 : w41.cell? ⟨w.heap.size + 1, 5, none⟩ = some (.int .i64 dr) := M.out.cell 5 _ rfl
    have y6 : w41.cell? ⟨w.heap.size + 1, 6, none⟩ = some (.bool b30) := M.out.cell 6 _ rfl
    have y7 : w41.cell? ⟨w.heap.size + 1, 7, none⟩ = some (.int .i64 pk) := M.out.cell 7 _ rfl
    have y8 : w41.cell? ⟨w.heap.size + 1, 8, none⟩ = some (.int .u8 sl.side) := M.out.cell 8 _ rfl
    have y9 : w41.cell? ⟨w.heap.size + 1, 9, none⟩ = some (.int .u8 sl.zone) := M.out.cell 9 _ rfl
    have y10 : w41.cell? ⟨w.heap.size + 1, 10, none⟩ = some (.int .u8 sl.kind) := M.out.cell 10 _ rfl
    have hB : w41.heap[w.heap.size]? = some (.cells #[.int .u8 0, .int .u8 0, .int .u8 0, .slice none 0 0, .int .i64 0, .int .i64 0, .bool false, .int .i64 0, .int .u8 0, .int .u8 0, .int .u8 0, .slice none 0 0] 43 (0, 0)) := M.out.res
    have e0 := cell_blk (i := 0) hB
    have e1 := cell_blk (i := 1) hB
    have e2 := cell_blk (i := 2) hB
    have e3 := cell_blk (i := 3) hB
    have e4 := cell_blk (i := 4) hB
    have e5 := cell_blk (i := 5) hB
    have e6 := cell_blk (i := 6) hB
    have e7 := cell_blk (i := 7) hB
    have e8 := cell_blk (i := 8) hB
    have e9 := cell_blk (i := 9) hB
    have e10 := cell_blk (i := 10) hB
    have e11 := cell_blk (i := 11) hB
    have ef0 := free_blk (i := 0) hB
    have ef1 := free_blk (i := 1) hB
    have ef2 := free_blk (i := 2) hB
    have ef3 := free_blk (i := 3) hB
    have ef4 := free_blk (i := 4) hB
    have ef5 := free_blk (i := 5) hB
    have ef6 := free_blk (i := 6) hB
    have ef7 := free_blk (i := 7) hB
    have ef8 := free_blk (i := 8) hB
    have ef9 := free_blk (i := 9) hB
    have ef10 := free_blk (i := 10) hB
    have ef11 := free_blk (i := 11) hB
    simp at e0 e1 e2 e3 e4 e5 e6 e7 e8 e9 e10 e11
    clear hB
    go_wp2
    refine bodyPost_ret (v := .agg #[.int .u8 m, .int .u8 ev, .int .u8 sd, .slice a6 n6 c6, .int .i64 pay, .int .i64 dr, .bool b30, .int .i64 pk, .int .u8 sl.side, .int .u8 sl.zone, .int .u8 sl.kind, .slice a41 n41 c41]) (by simp [results, Tryz.results69, go_sem, e0, e1, e2, e3, e4, e5, e6, e7, e8, e9, e10, e11]) rfl ?_
    refine ⟨⟨m, ev, sd, xs, pay, dr, b30, pk, sl, ys⟩, a6, n6, c6, a41, n41, c41, s41, rfl, ⟨_, _, rfl, row_above (w := w41.setCell ⟨w.heap.size + 1, 11, none⟩ (.slice a41 n41 c41)) (B := w.heap.size + 2) (ExAt.frames 5) HRow.out (by repeat (first | (with_reducible exact Above.refl _ _) | (with_reducible refine Above.alloc ?_ _) | (with_reducible refine Above.drew ?_) | ((with_reducible refine Above.setCell ?_ ?_ _); rotate_left; focus (first | (simp; done) | (simp; omega) | omega)))) (by omega), row_above (w := w41.setCell ⟨w.heap.size + 1, 11, none⟩ (.slice a41 n41 c41)) (B := w.heap.size + 2) StAt.frames HRow2.out (by repeat (first | (with_reducible exact Above.refl _ _) | (with_reducible refine Above.alloc ?_ _) | (with_reducible refine Above.drew ?_) | ((with_reducible refine Above.setCell ?_ ?_ _); rotate_left; focus (first | (simp; done) | (simp; omega) | omega)))) (by omega)⟩, ?_, ?_⟩
    · exact Res.bind R2.out (Res.bind R4.out (Res.bind R6.out (Res.bind R20c.out (Res.bind R21c.out (Res.bind R30.out (Res.bind R31c.out (Res.bind R40.out (Res.map _ R41.out))))))))
    · have GG := Lib.hid M2.out.goes
      exact (by repeat (first | (with_reducible exact GG.out) | (with_reducible refine Goes.alloc ?_ _) | (with_reducible refine Goes.drew ?_) | ((with_reducible refine Goes.store ?_ HE.out ?_ _); rotate_left; focus (first | (simp; done) | (simp; omega) | omega))))
end Go.Proofs.YtmhpopkbmnhkkaaGreatDoor
