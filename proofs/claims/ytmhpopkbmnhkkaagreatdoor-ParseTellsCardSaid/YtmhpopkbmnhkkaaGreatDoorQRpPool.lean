import Derived.Test.YtmhpopkbmnhkkaaGreatDoorQRpAll
/- joustref02.Pool: what it answers, for every text. -/
namespace Go.Proofs.YtmhpopkbmnhkkaaGreatDoor
open Go.RowKit Go.Lib

theorem bg_pool_end {t : Tok} (h : WTok t) (hk : t.kind = 0) : inW kindsW t = false := by
  unfold inW; rw [h.none hk]; rfl

set_option maxHeartbeats 8000000 in
set_option maxRecDepth 100000 in
theorem rpool_reads (s : ByteArray) (w : World) (hs : s.size ≤ maxLen) (hT : Tabs w) : Calls Tryz.prog 9 #[.string s] w (ReadEnds 38 6 CdAt (poolOf s) w) := by
  have H1 := Lib.hid (hT.below ((Below.refl _ _).alloc (Nat.le_refl _) (.cells #[.int .i64 0, .int .i64 0, .int .i64 0] 28)))
  have ho : Hid (∀ W, Tabs W → _) := fun W hW => rread_any s W hs hW
  obtain ⟨j0, hj0, hy0, hy1, hy2⟩ := info_parts Tryz.cardInfo
  clear hs hT
  go_enter Tryz.func9, Tryz.ntmps9
  go_wp2_with fail
  refine (ho.out _ H1.out).mono ?_
  rintro e w1 ⟨R, v, rfl, hR, b1, htk, hrd⟩
  have hB1 : w1.heap[w.heap.size]? = some (.cells #[.int .i64 0, .int .i64 0, .int .i64 0] 28 (0, 0)) := (b1.block _ (by simp)).trans (heap_alloc_new _ _)
  have B1 : Hid (Below w.heap.size w w1) := ((Below.refl _ _).alloc (Nat.le_refl _) _).trans (b1.mono (by simp))
  have hRw : w.heap.size + 1 ≤ R := by simpa using hR
  have hRl : R < w1.heap.size := heap_lt hrd
  have sz1 : w.heap.size < w1.heap.size := heap_lt hB1
  by_cases h0 : (scanOf s).2.1 = 0
  · have hz : (scanOf s).2.2 = (0, 0) := scan_spot0 s h0
    obtain ⟨E, rfl, hts, hrr⟩ := rr_new s w1 R v h0 htk hrd hz
    have HSC := Lib.hid h0
    have HTS := Lib.hid hts
    have HE := Lib.hid hrr.both
    have HG0 := Lib.hid (RGoes.start hrr)
    have HB1 := Lib.hid hB1
    clear h0 hts htk hrd hz hB1 b1 hR
    go_wp2_with fail
    go_loopw [5] (fun u wr => ∃ (acc : List Cd) (a : Option Addr) (n c : Nat) (s1 : RS), u = .slice a n c ∧ n = acc.length ∧ RowAt wr (From w1.heap.size) 38 6 CdAt (.slice a n c) acc ∧ RGoes w1 E s1 wr ∧ AllInv E.ts (inW kindsW) (pCard E.ts) 64 s1 acc)
      (fun u _ => 66 - lenV u)
    case atStart => exact ⟨[], none, 0, 0, .ok 0, rfl, rfl, RowAt.nil _ _ _ _ _, HG0.out, .inl ⟨0, rfl, Nat.zero_le _, Left.start 64 (.ok 0)⟩⟩
    case round =>
    obtain ⟨acc, a, n, c, s1, rfl, hn, hrow, gg, hinv⟩ := hrel
    have GG := Lib.hid gg
    have HRow := Lib.hid hrow
    have HN := Lib.hid hn
    rcases hinv with ⟨q, rfl, hle, hleft⟩ | ⟨x, l, y, rfl, hle, hres⟩
    · have hn64 : n ≤ 64 := by omega
      have HLeft := Lib.hid hleft
      have hwt := gg.rd.env.wf.all _ (tk_mem (show q < E.ts.length from gg.rd.fits))
      have HWT := Lib.hid hwt
      clear gg hrow hn hleft hle hwt
      by_cases hk : (tk E.ts q).kind = 0
      · have hbg : (inW kindsW) (tk E.ts q) = false := bg_pool_end HWT.out hk
        have HRes := Lib.hid (all_done HLeft.out hbg hk)
        have hdn := rdone_ok E q wr true (decide_eq_true hk) GG.out.rd
        have HD := Lib.hid hdn
        clear hk hbg hdn
        go_wp2_with fail
        refine HD.out.mono ?_
        rintro e w2 ⟨rfl, b2⟩
        have hg2 := GG.out.below b2
        obtain ⟨aa, ha, hap, c0, c1, c2, c3, c4, cf⟩ := hg2.rd.cells
        simp only [RS.e] at c2
        have HG := Lib.hid hg2
        have q1 : ((0 : Int) != 0) = false := rfl
        have hB := hg2.kept.heap (k := w.heap.size) (by omega) HB1.out
        have HRow2 := Lib.hid (row_below CdAt.frames HRow.out b2)
        have hRl2 : E.R < w2.heap.size := hg2.rd.lt
        have sz2 : w.heap.size < w2.heap.size := heap_lt hB
        have sz12 : w1.heap.size ≤ w2.heap.size := hg2.kept.size
        have e0 := cell_blk (i := 0) hB; have e1 := cell_blk (i := 1) hB; have e2 := cell_blk (i := 2) hB; have ef0 := free_blk (i := 0) hB; have ef1 := free_blk (i := 1) hB; have ef2 := free_blk (i := 2) hB; simp at e0 e1 e2
        clear b2 hg2 ha hap c0 c1 c3 c4 cf hB
        go_wp2
        refine bodyPost_ret (v := .tuple #[.slice a n c, .agg #[.int .i64 0, .int .i64 0, .int .i64 0]]) (by simp [results, Tryz.results9, go_sem, e0, e1, e2]) rfl ?_
        have hrs := read_good (p := pPool) HSC.out (by rw [← HTS.out]; exact HRes.out)
        have hrs' : poolOf s = (acc, 0, 0, 0) := hrs
        refine ⟨a, n, c, 0, 0, 0, rfl, ?_, by rw [hrs'], ?_⟩
        · rw [hrs']
          exact row_widen CdAt.frames (row_ab (w := w2) (B := w1.heap.size) CdAt.frames HRow2.out (by repeat (first | (with_reducible exact Above.refl _ _) | (with_reducible refine Above.alloc ?_ _) | (with_reducible refine Above.drew ?_) | ((with_reducible refine Above.setCell ?_ ?_ _); rotate_left; focus (first | (simp; done) | (simp; omega) | omega)))) (fun k hk => hk)) (fun k hk _ => by unfold From at *; omega)
        · have b3 : Below w.heap.size w w2 := B1.out.trans (HG.out.kept.below (by omega) (by omega))
          exact ((b3.setCell (p := ⟨w.heap.size, 0, none⟩) (Nat.le_refl _) _).setCell (p := ⟨w.heap.size, 1, none⟩) (Nat.le_refl _) _).setCell (p := ⟨w.heap.size, 2, none⟩) (Nat.le_refl _) _
      · have hdn := rdone_ok E q wr false (decide_eq_false hk) GG.out.rd
        have HD := Lib.hid hdn
        have HK := Lib.hid hk
        have HRR := GG
        clear hk hdn
        by_cases h64 : n < 64
        · have hn0 : ¬ ((n : Int) ≥ 64) := by omega
          cases hb : inW kindsW (tk E.ts q) with
          | true =>
            have HBg := Lib.hid hb
            clear hb
            go_wp2_with fail
            refine HD.out.mono ?_
            rintro e w2 ⟨rfl, b2⟩
            have GX := Lib.hid (GG.out.below b2)
            have HRX := Lib.hid (row_below CdAt.frames HRow.out b2)
            clear b2
            go_wp2_with fail
            refine (rcard_any E (.ok q) _ GX.out.rd).mono ?_
            rintro e w3 ⟨x, va, vn, vc, s3, rfl, hx, r3, g3⟩
            obtain ⟨css, hrow3⟩ := HRX.out
            have hown3 : (w3.alloc (.cells #[.string x.name, .int .u8 x.kind, .int .i64 x.level, .int .i64 x.attack, .int .i64 x.guard, .slice va vn vc] 38)).ownsRow 0 38 6 (.slice a n c) n css.flatten := by
              have h0 := ownsRow_same (b := 0) hrow3.own (w' := w3.alloc (.cells #[.string x.name, .int .u8 x.kind, .int .i64 x.level, .int .i64 x.attack, .int .i64 x.guard, .slice va vn vc] 38)) (fun i hi => (Below.heap_alloc _ _ _ (Nat.lt_of_lt_of_le (hrow3.own.lt i hi).2 g3.kept.size)).trans (g3.kept.block i (hrow3.own.lt i hi).2 (by have := hrow3.blk i hi; unfold From at this; omega)))
              rw [← HN.out] at h0
              exact h0
            have G3 := Lib.hid (GX.out.trans g3)
            have HX := Lib.hid (And.intro hx (And.intro r3 g3))
            have H3 := Lib.hid hrow3
            have HO := Lib.hid hown3
            have szk := GX.out.kept.size
            clear g3 hx r3 hown3 hrow3
            go_wp2_with (at_builtin; (refine wpList_append_lies _ rfl (.tmp 21) (.tmp 24) 23 rfl 0 38 j0 _ 6 72 Tryz.underlying23 hj0 hy0 hy1 hy2 rfl (by omega) _ n css.flatten rfl HO.out ⟨w3.heap.size, 0, none⟩ 1 1 (cdV x (.slice va vn vc)) rfl rfl (World.news_of_block (cs := (cdV x (.slice va vn vc)).toArray) (t := 38) (fr := (0, 0)) (heap_alloc_new _ _)) (by simp [exV, stV, efV, cdV, slV, Value.oneCell']) (by omega) (by unfold maxLen; omega) (by omega) (Nat.zero_le _) _ rfl ?_; intro g cap w4 hown4 hgrow4 hat4 hlt4; have hgr4 : World.grownBy _ w4 (Value.slice a n c).ownBlock := hgrow4))
            have hsn := row_grow CdAt.frames (R := E.R) (B := w1.heap.size) HE.out.2 szk H3.out HX.out.2.2.kept (x1 := x) (c1 := cdV x (.slice va vn vc)) (b := 0) HX.out.1 rfl (by simp [exV, stV, efV, cdV, slV, Value.oneCell']) (by rw [← HN.out]; exact hown4) hgr4 (hat4.imp id fun e => by rw [e]; simp)
            have G4 := (G3.out.alloc (.cells #[.string x.name, .int .u8 x.kind, .int .i64 x.level, .int .i64 x.attack, .int .i64 x.guard, .slice va vn vc] 38)).grown HE.out hgr4 (fun i hi => H3.out.blk i hi)
            have HF := Lib.hid (And.intro hsn G4)
            have HI := Lib.hid (all_more HLeft.out (by rw [← HN.out]; exact h64) HBg.out HX.out.2.1)
            clear hsn G4 hown4 hgr4 hgrow4 hat4
            go_wp2
            go_roundw
            case rel => exact ⟨acc ++ [x], _, n + 1, cap, s3, rfl, by rw [List.length_append, HN.out]; rfl, ⟨_, by have := HF.out.1; rw [← HN.out] at this; exact this⟩, HF.out.2, HI.out⟩
            case measure => simp [lenV]; omega
          | false =>
            have HBg := Lib.hid hb
            clear hb
            go_wp2_with fail
            refine HD.out.mono ?_
            rintro e w2 ⟨rfl, b2⟩
            have GX := Lib.hid (GG.out.below b2)
            have HRX := Lib.hid (row_below CdAt.frames HRow.out b2)
            clear b2
            go_wp2_with fail
            refine (rcard_any E (.ok q) _ GX.out.rd).mono ?_
            rintro e w3 ⟨x, va, vn, vc, s3, rfl, hx, r3, g3⟩
            obtain ⟨css, hrow3⟩ := HRX.out
            have hown3 : (w3.alloc (.cells #[.string x.name, .int .u8 x.kind, .int .i64 x.level, .int .i64 x.attack, .int .i64 x.guard, .slice va vn vc] 38)).ownsRow 0 38 6 (.slice a n c) n css.flatten := by
              have h0 := ownsRow_same (b := 0) hrow3.own (w' := w3.alloc (.cells #[.string x.name, .int .u8 x.kind, .int .i64 x.level, .int .i64 x.attack, .int .i64 x.guard, .slice va vn vc] 38)) (fun i hi => (Below.heap_alloc _ _ _ (Nat.lt_of_lt_of_le (hrow3.own.lt i hi).2 g3.kept.size)).trans (g3.kept.block i (hrow3.own.lt i hi).2 (by have := hrow3.blk i hi; unfold From at this; omega)))
              rw [← HN.out] at h0
              exact h0
            have G3 := Lib.hid (GX.out.trans g3)
            have HX := Lib.hid (And.intro hx (And.intro r3 g3))
            have H3 := Lib.hid hrow3
            have HO := Lib.hid hown3
            have szk := GX.out.kept.size
            clear g3 hx r3 hown3 hrow3
            go_wp2_with (at_builtin; (refine wpList_append_lies _ rfl (.tmp 21) (.tmp 24) 23 rfl 0 38 j0 _ 6 72 Tryz.underlying23 hj0 hy0 hy1 hy2 rfl (by omega) _ n css.flatten rfl HO.out ⟨w3.heap.size, 0, none⟩ 1 1 (cdV x (.slice va vn vc)) rfl rfl (World.news_of_block (cs := (cdV x (.slice va vn vc)).toArray) (t := 38) (fr := (0, 0)) (heap_alloc_new _ _)) (by simp [exV, stV, efV, cdV, slV, Value.oneCell']) (by omega) (by unfold maxLen; omega) (by omega) (Nat.zero_le _) _ rfl ?_; intro g cap w4 hown4 hgrow4 hat4 hlt4; have hgr4 : World.grownBy _ w4 (Value.slice a n c).ownBlock := hgrow4))
            have hsn := row_grow CdAt.frames (R := E.R) (B := w1.heap.size) HE.out.2 szk H3.out HX.out.2.2.kept (x1 := x) (c1 := cdV x (.slice va vn vc)) (b := 0) HX.out.1 rfl (by simp [exV, stV, efV, cdV, slV, Value.oneCell']) (by rw [← HN.out]; exact hown4) hgr4 (hat4.imp id fun e => by rw [e]; simp)
            have G4 := (G3.out.alloc (.cells #[.string x.name, .int .u8 x.kind, .int .i64 x.level, .int .i64 x.attack, .int .i64 x.guard, .slice va vn vc] 38)).grown HE.out hgr4 (fun i hi => H3.out.blk i hi)
            have HF := Lib.hid (And.intro hsn G4)
            have HI := Lib.hid (all_wrong HLeft.out (by rw [← HN.out]; omega) HBg.out HK.out (card_wrong HBg.out) HX.out.2.1)
            clear hsn G4 hown4 hgr4 hgrow4 hat4
            go_wp2
            go_roundw
            case rel => exact ⟨acc ++ [x], _, n + 1, cap, s3, rfl, by rw [List.length_append, HN.out]; rfl, ⟨_, by have := HF.out.1; rw [← HN.out] at this; exact this⟩, HF.out.2, HI.out⟩
            case measure => simp [lenV]; omega
        have h64' : n = 64 := by omega
        have hge : (n : Int) ≥ 64 := by omega
        have H64 := Lib.hid h64'
        clear h64 h64'
        go_wp2_with fail
        refine HD.out.mono ?_
        rintro e w2 ⟨rfl, b2⟩
        have GX := Lib.hid (GG.out.below b2)
        have HRX := Lib.hid (row_below CdAt.frames HRow.out b2)
        clear b2
        go_wp2_with fail
        refine (rKinds_any E.R _ GX.out.rd.lt).mono ?_
        rintro e w21 ⟨v21, rfl, hv21, b21⟩
        have HV := Lib.hid hv21
        obtain ⟨wa, wn, wc, rfl⟩ := hv21.form
        replace GX := Lib.hid (GX.out.below b21)
        replace HRX := Lib.hid (row_below CdAt.frames HRX.out b21)
        clear b21 hv21
        go_wp2_with fail
        refine (ramong_any E (.ok q) _ _ kindsW wdy_kinds HV.out GX.out.rd).mono ?_
        rintro e w22 ⟨rfl, g22⟩
        rw [show amongW E (.ok q) kindsW = inW kindsW (tk E.ts q) from rfl]
        replace HRX := Lib.hid (row_kept CdAt.frames HRX.out g22.kept (fun i hi => by unfold From at hi; have := HE.out.2; omega))
        replace GX := Lib.hid (GX.out.trans g22)
        clear g22
        cases hb : inW kindsW (tk E.ts q) with
        | true =>
          have HBg := Lib.hid hb
          clear hb
          go_wp2_with fail
          refine (rfails_any E (.ok q) _ 3 (by decide) GX.out.rd).mono ?_
          rintro e w23 ⟨rfl, g23⟩
          replace HRX := Lib.hid (row_kept CdAt.frames HRX.out g23.kept (fun i hi => by unfold From at hi; have := HE.out.2; omega))
          replace GX := Lib.hid (GX.out.trans g23)
          clear g23
          go_wp2_with fail
          refine (rcard_any E (RS.failR E 3 (.ok q)) _ GX.out.rd).mono ?_
          rintro e w3 ⟨x, va, vn, vc, s3, rfl, hx, r3, g3⟩
          obtain ⟨css, hrow3⟩ := HRX.out
          have hown3 : (w3.alloc (.cells #[.string x.name, .int .u8 x.kind, .int .i64 x.level, .int .i64 x.attack, .int .i64 x.guard, .slice va vn vc] 38)).ownsRow 0 38 6 (.slice a n c) n css.flatten := by
            have h0 := ownsRow_same (b := 0) hrow3.own (w' := w3.alloc (.cells #[.string x.name, .int .u8 x.kind, .int .i64 x.level, .int .i64 x.attack, .int .i64 x.guard, .slice va vn vc] 38)) (fun i hi => (Below.heap_alloc _ _ _ (Nat.lt_of_lt_of_le (hrow3.own.lt i hi).2 g3.kept.size)).trans (g3.kept.block i (hrow3.own.lt i hi).2 (by have := hrow3.blk i hi; unfold From at this; omega)))
            rw [← HN.out] at h0
            exact h0
          have G3 := Lib.hid (GX.out.trans g3)
          have HX := Lib.hid (And.intro hx (And.intro r3 g3))
          have H3 := Lib.hid hrow3
          have HO := Lib.hid hown3
          have szk := GX.out.kept.size
          clear g3 hx r3 hown3 hrow3
          go_wp2_with (at_builtin; (refine wpList_append_lies _ rfl (.tmp 21) (.tmp 24) 23 rfl 0 38 j0 _ 6 72 Tryz.underlying23 hj0 hy0 hy1 hy2 rfl (by omega) _ n css.flatten rfl HO.out ⟨w3.heap.size, 0, none⟩ 1 1 (cdV x (.slice va vn vc)) rfl rfl (World.news_of_block (cs := (cdV x (.slice va vn vc)).toArray) (t := 38) (fr := (0, 0)) (heap_alloc_new _ _)) (by simp [exV, stV, efV, cdV, slV, Value.oneCell']) (by omega) (by unfold maxLen; omega) (by omega) (Nat.zero_le _) _ rfl ?_; intro g cap w4 hown4 hgrow4 hat4 hlt4; have hgr4 : World.grownBy _ w4 (Value.slice a n c).ownBlock := hgrow4))
          have hsn := row_grow CdAt.frames (R := E.R) (B := w1.heap.size) HE.out.2 szk H3.out HX.out.2.2.kept (x1 := x) (c1 := cdV x (.slice va vn vc)) (b := 0) HX.out.1 rfl (by simp [exV, stV, efV, cdV, slV, Value.oneCell']) (by rw [← HN.out]; exact hown4) hgr4 (hat4.imp id fun e => by rw [e]; simp)
          have G4 := (G3.out.alloc (.cells #[.string x.name, .int .u8 x.kind, .int .i64 x.level, .int .i64 x.attack, .int .i64 x.guard, .slice va vn vc] 38)).grown HE.out hgr4 (fun i hi => H3.out.blk i hi)
          have HF := Lib.hid (And.intro hsn G4)
          have HI := Lib.hid (all_full HLeft.out (HN.out.symm.trans H64.out) HBg.out HX.out.2.1)
          clear hsn G4 hown4 hgr4 hgrow4 hat4
          go_wp2
          go_roundw
          case rel => exact ⟨acc ++ [x], _, n + 1, cap, s3, rfl, by rw [List.length_append, HN.out]; rfl, ⟨_, by have := HF.out.1; rw [← HN.out] at this; exact this⟩, HF.out.2, HI.out⟩
          case measure => simp [lenV]; omega
        | false =>
          have HBg := Lib.hid hb
          clear hb
          go_wp2_with fail
          refine (rcard_any E (.ok q) _ GX.out.rd).mono ?_
          rintro e w3 ⟨x, va, vn, vc, s3, rfl, hx, r3, g3⟩
          obtain ⟨css, hrow3⟩ := HRX.out
          have hown3 : (w3.alloc (.cells #[.string x.name, .int .u8 x.kind, .int .i64 x.level, .int .i64 x.attack, .int .i64 x.guard, .slice va vn vc] 38)).ownsRow 0 38 6 (.slice a n c) n css.flatten := by
            have h0 := ownsRow_same (b := 0) hrow3.own (w' := w3.alloc (.cells #[.string x.name, .int .u8 x.kind, .int .i64 x.level, .int .i64 x.attack, .int .i64 x.guard, .slice va vn vc] 38)) (fun i hi => (Below.heap_alloc _ _ _ (Nat.lt_of_lt_of_le (hrow3.own.lt i hi).2 g3.kept.size)).trans (g3.kept.block i (hrow3.own.lt i hi).2 (by have := hrow3.blk i hi; unfold From at this; omega)))
            rw [← HN.out] at h0
            exact h0
          have G3 := Lib.hid (GX.out.trans g3)
          have HX := Lib.hid (And.intro hx (And.intro r3 g3))
          have H3 := Lib.hid hrow3
          have HO := Lib.hid hown3
          have szk := GX.out.kept.size
          clear g3 hx r3 hown3 hrow3
          go_wp2_with (at_builtin; (refine wpList_append_lies _ rfl (.tmp 21) (.tmp 24) 23 rfl 0 38 j0 _ 6 72 Tryz.underlying23 hj0 hy0 hy1 hy2 rfl (by omega) _ n css.flatten rfl HO.out ⟨w3.heap.size, 0, none⟩ 1 1 (cdV x (.slice va vn vc)) rfl rfl (World.news_of_block (cs := (cdV x (.slice va vn vc)).toArray) (t := 38) (fr := (0, 0)) (heap_alloc_new _ _)) (by simp [exV, stV, efV, cdV, slV, Value.oneCell']) (by omega) (by unfold maxLen; omega) (by omega) (Nat.zero_le _) _ rfl ?_; intro g cap w4 hown4 hgrow4 hat4 hlt4; have hgr4 : World.grownBy _ w4 (Value.slice a n c).ownBlock := hgrow4))
          have hsn := row_grow CdAt.frames (R := E.R) (B := w1.heap.size) HE.out.2 szk H3.out HX.out.2.2.kept (x1 := x) (c1 := cdV x (.slice va vn vc)) (b := 0) HX.out.1 rfl (by simp [exV, stV, efV, cdV, slV, Value.oneCell']) (by rw [← HN.out]; exact hown4) hgr4 (hat4.imp id fun e => by rw [e]; simp)
          have G4 := (G3.out.alloc (.cells #[.string x.name, .int .u8 x.kind, .int .i64 x.level, .int .i64 x.attack, .int .i64 x.guard, .slice va vn vc] 38)).grown HE.out hgr4 (fun i hi => H3.out.blk i hi)
          have HF := Lib.hid (And.intro hsn G4)
          have HI := Lib.hid (all_wrong HLeft.out (by rw [← HN.out]; exact Nat.le_of_eq H64.out) HBg.out HK.out (card_wrong HBg.out) HX.out.2.1)
          clear hsn G4 hown4 hgr4 hgrow4 hat4
          go_wp2
          go_roundw
          case rel => exact ⟨acc ++ [x], _, n + 1, cap, s3, rfl, by rw [List.length_append, HN.out]; rfl, ⟨_, by have := HF.out.1; rw [← HN.out] at this; exact this⟩, HF.out.2, HI.out⟩
          case measure => simp [lenV]; omega
    · have hx : x ≠ 0 := gg.rd.fits
      obtain ⟨aa, ha, hap, c0, c1, c2, c3, c4, cf⟩ := gg.rd.cells
      simp only [RS.e, RS.l, RS.c] at c2 c3 c4
      have hdn := rdone_bad E.R wr x hx c2
      have HD := Lib.hid hdn
      have HRes := Lib.hid (hres [])
      have q1 : (x != 0) = true := by simpa using hx
      clear gg hrow hn hle hres ha hap c0 c1 c2 c3 c4 cf hdn hx
      go_wp2_with fail
      refine HD.out.mono ?_
      rintro e w2 ⟨rfl, b2⟩
      have hg2 := GG.out.below b2
      obtain ⟨aa, ha, hap, c0, c1, c2, c3, c4, cf⟩ := hg2.rd.cells
      simp only [RS.e, RS.l, RS.c] at c2 c3 c4
      have HG := Lib.hid hg2
      have hB := hg2.kept.heap (k := w.heap.size) (by omega) HB1.out
      have hRl2 : E.R < w2.heap.size := hg2.rd.lt
      have sz2 : w.heap.size < w2.heap.size := heap_lt hB
      have hne : E.R ≠ w.heap.size := by omega
      have e0 := cell_blk (i := 0) hB; have e1 := cell_blk (i := 1) hB; have e2 := cell_blk (i := 2) hB; have ef0 := free_blk (i := 0) hB; have ef1 := free_blk (i := 1) hB; have ef2 := free_blk (i := 2) hB; simp at e0 e1 e2
      clear b2 hg2 ha hap c0 c1 cf hB
      go_wp2
      go_region
      go_wp2
      refine bodyPost_ret (v := .tuple #[.slice none 0 0, .agg #[.int .i64 x, .int .i64 l, .int .i64 y]]) (by simp [results, Tryz.results9, go_sem, e0, e1, e2]) rfl ?_
      have hrs := read_fails (p := pPool) HSC.out (by rw [← HTS.out]; exact HRes.out)
      have hrs' : poolOf s = ([], x, l, y) := hrs
      refine ⟨none, 0, 0, x, l, y, rfl, ?_, by rw [hrs'], ?_⟩
      · rw [hrs']; exact RowAt.nil _ _ _ _ _
      · have b3 : Below w.heap.size w w2 := B1.out.trans (HG.out.kept.below (by omega) (by omega))
        exact (((b3.setCell (p := ⟨w.heap.size, 0, none⟩) (Nat.le_refl _) _).setCell (p := ⟨w.heap.size, 1, none⟩) (Nat.le_refl _) _).setCell (p := ⟨w.heap.size, 2, none⟩) (Nat.le_refl _) _).drew
  · have hres : Hid (poolOf s = ([], ((scanOf s).2.1 : Int), (scanOf s).2.2.1, (scanOf s).2.2.2)) := read_scan h0
    generalize (scanOf s).2.1 = er at *
    generalize (scanOf s).2.2.1 = el at *
    generalize (scanOf s).2.2.2 = ec at *
    have hx : (er : Int) ≠ 0 := by omega
    have c2 : w1.cell? ⟨R, 2, none⟩ = some (.int .i64 er) := by rw [cell_blk hrd]; rfl
    have hdn := rdone_bad R w1 er hx c2
    have HD := Lib.hid hdn
    have HRd := Lib.hid hrd
    have HB1 := Lib.hid hB1
    have q1 : ((er : Int) != 0) = true := by simpa using hx
    clear h0 htk hrd hB1 b1 hR hx c2 hdn
    go_wp2_with fail
    go_loopw [5] (fun u wr => u = .slice none 0 0 ∧ wr = w1) (fun u _ => 0)
    case atStart => exact ⟨rfl, rfl⟩
    case round =>
    obtain ⟨rfl, rfl⟩ := hrel
    go_wp2_with fail
    refine HD.out.mono ?_
    rintro e w2 ⟨rfl, b2⟩
    have hrd2 := (b2.block _ (heap_lt HRd.out)).trans HRd.out
    have c2 : w2.cell? ⟨R, 2, none⟩ = some (.int .i64 er) := by rw [cell_blk hrd2]; rfl
    have c3 : w2.cell? ⟨R, 3, none⟩ = some (.int .i64 el) := by rw [cell_blk hrd2]; rfl
    have c4 : w2.cell? ⟨R, 4, none⟩ = some (.int .i64 ec) := by rw [cell_blk hrd2]; rfl
    have hB := (b2.block _ (heap_lt HB1.out)).trans HB1.out
    have hRl2 : R < w2.heap.size := heap_lt hrd2
    have sz2 : w.heap.size < w2.heap.size := heap_lt hB
    have hne : R ≠ w.heap.size := by omega
    have B2 := Lib.hid (B1.out.trans (b2.mono (by omega)))
    have e0 := cell_blk (i := 0) hB; have e1 := cell_blk (i := 1) hB; have e2 := cell_blk (i := 2) hB; have ef0 := free_blk (i := 0) hB; have ef1 := free_blk (i := 1) hB; have ef2 := free_blk (i := 2) hB; simp at e0 e1 e2
    clear b2 hrd2 hB
    go_wp2
    go_region
    go_wp2
    refine bodyPost_ret (v := .tuple #[.slice none 0 0, .agg #[.int .i64 er, .int .i64 el, .int .i64 ec]]) (by simp [results, Tryz.results9, go_sem, e0, e1, e2]) rfl ?_
    refine ⟨none, 0, 0, er, el, ec, rfl, by rw [hres.out]; exact RowAt.nil _ _ _ _ _, by rw [hres.out], ?_⟩
    exact (((B2.out.setCell (p := ⟨w.heap.size, 0, none⟩) (Nat.le_refl _) _).setCell (p := ⟨w.heap.size, 1, none⟩) (Nat.le_refl _) _).setCell (p := ⟨w.heap.size, 2, none⟩) (Nat.le_refl _) _).drew
end Go.Proofs.YtmhpopkbmnhkkaaGreatDoor
