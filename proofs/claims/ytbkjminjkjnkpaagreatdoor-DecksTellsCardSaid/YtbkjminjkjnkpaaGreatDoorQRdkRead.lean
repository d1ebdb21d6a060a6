import Derived.Test.YtbkjminjkjnkpaaGreatDoorQRdkDeck
import Derived.Test.YtbkjminjkjnkpaaGreatDoorQRefTokens
import Derived.Test.YtbkjminjkjnkpaaGreatDoorQDkRead
/- The reference of layer 5 (joustref05): Read. -/
namespace Go.Proofs.YtbkjminjkjnkpaaGreatDoor
open Go.RowKit Go.Lib

theorem rdeck_ok {E : TE} {w w' : World} {R : Nat × List Nat × List KT} {e : Ending} (h : RDeckEnds E w R e w') (hz : R.1 = 0) :
    ∃ a m c q, e = .returned (.tuple #[.slice a m c, .int .i64 (q : Nat), .agg #[.int .i64 0, .int .i64 0, .int .i64 0]]) ∧ q < E.n ∧ E.kts.drop q = R.2.2 ∧ NatsAt w' w.heap.size (.slice a m c) R.2.1 ∧ Below w.heap.size w w' := by
  obtain ⟨a, m, c, q, he, hq, hd, hn, hb⟩ := h
  refine ⟨a, m, c, q, ?_, hq, hd, hn hz, hb⟩
  rw [he]
  unfold spotR
  rw [if_pos hz, hz]
  rfl
theorem rdeck_bad {E : TE} {w w' : World} {R : Nat × List Nat × List KT} {e : Ending} (h : RDeckEnds E w R e w') (hz : R.1 ≠ 0) :
    ∃ a m c q, e = .returned (.tuple #[.slice a m c, .int .i64 (q : Nat), .agg #[.int .i64 R.1, .int .i64 (tk E.ts q).spot.1, .int .i64 (tk E.ts q).spot.2]]) ∧ q < E.n ∧ E.kts.drop q = R.2.2 ∧ Below w.heap.size w w' := by
  obtain ⟨a, m, c, q, he, hq, hd, hn, hb⟩ := h
  refine ⟨a, m, c, q, ?_, hq, hd, hb⟩
  rw [he]
  unfold spotR
  rw [if_neg hz]
/-- A deck and a fault are put down. -/
theorem deck_set (X : World) (C D : Nat) (i : Nat) (c0 c1 d0 d1 d2 u v0 v1 v2 : Value) (t t' : TypeId) (hC : X.heap[C]? = some (.cells #[c0, c1] t (0, 0))) (hD : X.heap[D]? = some (.cells #[d0, d1, d2] t' (0, 0))) (hn : C ≠ D) :
    ∃ W, W = (((X.setCell ⟨C, i, none⟩ u).setCell ⟨D, 0, none⟩ v0).setCell ⟨D, 1, none⟩ v1).setCell ⟨D, 2, none⟩ v2 ∧ W.heap[C]? = some (.cells (#[c0, c1].setIfInBounds i u) t (0, 0)) ∧ W.heap[D]? = some (.cells #[v0, v1, v2] t' (0, 0)) ∧ W.heap.size = X.heap.size ∧
      (∀ B, B ≤ C → B ≤ D → Below B X W) ∧ ∀ k, k ≠ C → k ≠ D → W.heap[k]? = X.heap[k]? := by
  refine ⟨_, rfl, ?_, ?_, by simp [World.setCell], fun B h1 h2 => ?_, fun k h1 h2 => ?_⟩
  · rw [heap_set_far (by simpa using hn), heap_set_far (by simpa using hn), heap_set_far (by simpa using hn)]
    exact heap_set (i := i) hC u
  · have h2 : (X.setCell ⟨C, i, none⟩ u).heap[D]? = some (.cells #[d0, d1, d2] t' (0, 0)) := by rw [heap_set_far (by simpa using hn.symm)]; exact hD
    exact heap_set (i := 2) (heap_set (i := 1) (heap_set (i := 0) h2 v0) v1) v2
  · exact ((((Below.refl B X).setCell (p := ⟨C, i, none⟩) h1 _).setCell (p := ⟨D, 0, none⟩) h2 _).setCell (p := ⟨D, 1, none⟩) h2 _).setCell (p := ⟨D, 2, none⟩) h2 _
  · rw [heap_set_far (by simpa using h2), heap_set_far (by simpa using h2), heap_set_far (by simpa using h2), heap_set_far (by simpa using h1)]

theorem results_cells2 {fn : Func} {p q : Tmp} {ty ty' : TypeId} (h : fn.results = #[.cell p ty, .cell q ty']) (tmps : Array Value) (P : Program) (w : World) (g g' : Nat) (t t' : TypeId) (cs cs' : Array Value) (fr fr' : Nat × Nat) (n : Nat) (el : TypeId) (fs : Array Field)
    (hp : tmps.getD p undef = .pointer (some ⟨g, 0, none⟩)) (hq : tmps.getD q undef = .pointer (some ⟨g', 0, none⟩)) (hg : w.heap[g]? = some (.cells cs t fr)) (hg' : w.heap[g']? = some (.cells cs' t' fr'))
    (hu : P.underlying ty = some (.array n el)) (hu' : P.underlying ty' = some (.struct fs)) (hi : (P.info? ty).map (·.size) = some cs.size) (hi' : (P.info? ty').map (·.size) = some cs'.size) :
    (results fn tmps).run P w = .ok (.tuple #[.agg cs, .agg cs']) w := by
  have hp' : tmps[p]?.getD undef = .pointer (some ⟨g, 0, none⟩) := by simpa using hp
  have hq' : tmps[q]?.getD undef = .pointer (some ⟨g', 0, none⟩) := by simpa using hq
  simp [results, h, hp', hq', asAddr, Sem.run_bind, Result.andThen, run_loadVar_row w g t ty cs fr (.array n el) hg hu rfl hi, run_loadVar_row w g' t' ty' cs' fr' (.struct fs) hg' hu' rfl hi']

set_option maxHeartbeats 8000000 in
set_option maxRecDepth 100000 in
theorem rread_any (s : ByteArray) (p : Option Addr) (kc : Nat) (ks : List KC) (w : World) (hs : s.size ≤ maxLen) (hK : KindsAt w p ks) (hm : ks.length ≤ 4611686018427387904) (hT : Tabs w) :
    Calls Tryz.prog 7 #[.string s, .slice p ks.length kc] w (ReadEnds w (readOf (ks.map (·.name)) s)) := by
  have htok := fun W (hW : Tabs W) => rtokens_any s W hs hW
  rw [← scanOf_refOf] at htok
  obtain ⟨R, hR⟩ : ∃ R, R = readOf (ks.map (·.name)) s := ⟨_, rfl⟩
  rw [← hR]
  unfold readOf at hR
  have hfew := kts_few s
  have hsz := scan_size s
  have hwt := wtoks_scan s
  have hko := kts_ok s
  unfold ktsOf at hR hko
  generalize scanOf s = T at *
  obtain ⟨ts, er, sp⟩ := T
  obtain ⟨fl, fc⟩ := sp
  simp only [] at hfew hsz hwt hR hko
  have HTOK := Lib.hid htok
  have HR := Lib.hid hR
  have HK := Lib.hid hK
  have HT := Lib.hid hT
  have Hfew := Lib.hid hfew
  have Hsz := Lib.hid hsz
  have Hwt := Lib.hid hwt
  have Hko := Lib.hid hko
  obtain ⟨w0, hw0⟩ : ∃ w0, w0 = ((w.alloc (.cells #[.slice none 0 0, .slice none 0 0] 23)).alloc (.cells #[.int .i64 0, .int .i64 0, .int .i64 0] 31)).alloc (.cells #[.slice none 0 0, .slice none 0 0] 23) := ⟨_, rfl⟩
  have hb0 : Below w.heap.size w w0 := by rw [hw0]; exact (((Below.refl _ _).alloc (Nat.le_refl _) _).alloc (by simp) _).alloc (by simp; omega) _
  have hs0 : w0.heap.size = w.heap.size + 3 := by rw [hw0]; simp
  have r0 : w0.heap[w.heap.size]? = some (.cells #[.slice none 0 0, .slice none 0 0] 23 (0, 0)) := by rw [hw0, heap_alloc_old _ _ (by simp; omega), heap_alloc_old _ _ (by simp)]; exact heap_alloc_new _ _
  have r1 : w0.heap[w.heap.size + 1]? = some (.cells #[.int .i64 0, .int .i64 0, .int .i64 0] 31 (0, 0)) := by
    rw [hw0, heap_alloc_old _ _ (by simp)]; have := heap_alloc_new (w.alloc (.cells #[.slice none 0 0, .slice none 0 0] 23)) (.cells #[.int .i64 0, .int .i64 0, .int .i64 0] 31); rwa [show (w.alloc (.cells #[.slice none 0 0, .slice none 0 0] 23)).heap.size = w.heap.size + 1 by simp] at this
  have r2 : w0.heap[w.heap.size + 2]? = some (.cells #[.slice none 0 0, .slice none 0 0] 23 (0, 0)) := by
    rw [hw0]; have := heap_alloc_new ((w.alloc (.cells #[.slice none 0 0, .slice none 0 0] 23)).alloc (.cells #[.int .i64 0, .int .i64 0, .int .i64 0] 31)) (.cells #[.slice none 0 0, .slice none 0 0] 23); rwa [show ((w.alloc (.cells #[.slice none 0 0, .slice none 0 0] 23)).alloc (.cells #[.int .i64 0, .int .i64 0, .int .i64 0] 31)).heap.size = w.heap.size + 2 by simp] at this
  have HW0 := Lib.hid hw0
  have HB0 := Lib.hid hb0
  have HS0 := Lib.hid hs0
  have HR0 := Lib.hid r0
  have HR1 := Lib.hid r1
  have HR2 := Lib.hid r2
  have htk := Lib.hid (htok w0 (hT.below hb0))
  clear htok hR hK hT hfew hsz hwt hko hw0 hb0 hs0 r0 r1 r2
  go_enter Tryz.func7, Tryz.ntmps7
  go_wp2_with fail
  rw [← HW0.out]
  refine htk.out.mono ?_
  rintro e w1 h1
  obtain ⟨v, rfl, hown, b1⟩ := h1
  simp only [] at hown
  have hv : HasToks w1 v ts := ⟨_, hown⟩
  have HOWN := Lib.hid hown
  obtain ⟨w2, hw2⟩ : ∃ w2, w2 = w1.alloc (.cells #[.int .i64 (er : Nat), .int .i64 fl, .int .i64 fc] 31) := ⟨_, rfl⟩
  have hb12 : Below w1.heap.size w1 w2 := by rw [hw2]; exact (Below.refl _ _).alloc (Nat.le_refl _) _
  have hb02 : Below w0.heap.size w0 w2 := b1.trans (hb12.mono b1.size)
  have hd2 : w2.heap[w1.heap.size]? = some (.cells #[.int .i64 (er : Nat), .int .i64 fl, .int .i64 fc] 31 (0, 0)) := by rw [hw2]; exact heap_alloc_new _ _
  have hs2 : w2.heap.size = w1.heap.size + 1 := by rw [hw2]; simp
  have hz1 : w.heap.size + 3 ≤ w1.heap.size := by have := b1.size; have := HS0.out; omega
  have HW2 := Lib.hid hw2
  have HB02 := Lib.hid hb02
  have HD2 := Lib.hid hd2
  have HV := Lib.hid (HasToks.later hv hb12)
  have HS2 := Lib.hid hs2
  clear hown hv b1 hw2 hb12 hb02 hd2 hs2 htk
  by_cases he : er = 0
  · subst he
    have hwt := Hwt.out rfl
    have hfw := Hfew.out (Hsz.out rfl) rfl
    obtain ⟨lk, hlk, hok⟩ := Hko.out (Hsz.out rfl) rfl
    have hlead : ∀ t ∈ ts, t.kind = 2 → Lead t.text := fun t ht h2 => by
      have hm : t.kt ∈ lk ++ [ktEnd] := by rw [← hlk]; exact List.mem_map.2 ⟨t, ht, rfl⟩
      rcases List.mem_append.1 hm with hm | hm
      · have := hok _ hm
        rw [show t.kt.1 = 2 from h2] at this
        exact lead_of this
      · simp only [List.mem_singleton] at hm
        have : t.kt.1 = 0 := by rw [hm]; rfl
        rw [show t.kt.1 = 2 from h2] at this
        cases this
    obtain ⟨G, cap, rfl, hcap, hcm, htc⟩ : ∃ g cap, v = .slice (some ⟨g, 0, none⟩) ts.length cap ∧ ts.length ≤ cap ∧ cap ≤ maxLen ∧ _ := by
      rcases HV.out.open with ⟨-, h0⟩ | h0
      · have := hwt.pos; rw [h0] at this; simp at this
      · exact h0
    have hGl : G < w2.heap.size := by
      obtain ⟨a, -⟩ := htc 0 _ (tk_get hwt.pos)
      exact World.block_lt_of_cell? _ _ a
    have hGb := World.ownsRow.lt HOWN.out G rfl
    have HW2 : Hid (w2 = w1.alloc (.cells #[.int .i64 0, .int .i64 fl, .int .i64 fc] 31)) := Lib.hid HW2.out
    obtain ⟨E, hE⟩ : ∃ E : TE, E = ⟨ts, G, cap, ks, p, kc⟩ := ⟨_, rfl⟩
    have henv : ∀ W, Below w.heap.size w W → W.heap[G]? = w2.heap[G]? → TEnv W E := fun W hW hG => by
      rw [hE]
      refine ⟨fun q hq => ?_, hwt, hlead, hfw, (HK.out.below hW), hm⟩
      obtain ⟨a, b, c, d⟩ := htc q _ (tk_get hq)
      exact ⟨by rw [World.cell?_of_block (w := w2) hG]; exact a, by rw [World.cell?_of_block (w := w2) hG]; exact b, by rw [World.cell?_of_block (w := w2) hG]; exact c, by rw [World.cell?_of_block (w := w2) hG]; exact d⟩
    have HDK : Hid (∀ W, Below w.heap.size w W → W.heap[G]? = w2.heap[G]? → ∀ q : Nat, q < ts.length → Calls Tryz.prog 21 #[.slice (some ⟨G, 0, none⟩) ts.length cap, .int .i64 (q : Nat), .slice p ks.length kc] W (RDeckEnds E W (oneDeck (ks.map (·.name)) ((ts.map Tok.kt).drop q)))) := Lib.hid fun W hW hG q hq => by
      have := rdeck_any E q W (henv W hW hG) (by rw [hE]; exact hq)
      rw [hE] at this ⊢
      exact this
    have hEn : E.n = ts.length := by rw [hE]; rfl
    have hEk : E.kts = ts.map Tok.kt := by rw [hE]; rfl
    have hEt : E.ts = ts := by rw [hE]
    have HE : Hid (E.n = ts.length ∧ E.kts = ts.map Tok.kt ∧ E.ts = ts) := Lib.hid ⟨hEn, hEk, hEt⟩
    have hr := HR.out
    rw [if_pos rfl] at hr
    obtain ⟨R1, hR1⟩ : ∃ R1, oneDeck (ks.map (·.name)) (ts.map Tok.kt) = R1 := ⟨_, rfl⟩
    unfold twoDecks at hr
    rw [hR1] at hr
    have HRR := Lib.hid hr
    have hdk1 := HDK.out w2 (HB0.out.trans (HB02.out.mono HB0.out.size)) rfl 0 hwt.pos
    rw [List.drop_zero, hR1] at hdk1
    have HDK1 := Lib.hid hdk1
    have hc2 := (HB02.out.block _ (heap_lt HR2.out)).trans HR2.out
    have x0 := (HB02.out.block _ (heap_lt HR0.out)).trans HR0.out
    have x1 := (HB02.out.block _ (heap_lt HR1.out)).trans HR1.out
    have HC2 := Lib.hid hc2
    have X0 := Lib.hid x0
    have X1 := Lib.hid x1
    have hd2 := HD2.out
    have hl2 := heap_lt hd2
    have hl3 := heap_lt hc2
    have HGB : Hid (w.heap.size + 3 ≤ G ∧ G < w1.heap.size ∧ G < w2.heap.size) := Lib.hid ⟨by have := HS0.out; omega, hGb.2, hGl⟩
    have HTC := Lib.hid htc
    have HPOS : Hid (0 < ts.length) := Lib.hid hwt.pos
    have hfw2 : ts.length ≤ 65537 := hfw
    have f0 := cell_blk (i := 0) hd2; have f1 := cell_blk (i := 1) hd2; have f2 := cell_blk (i := 2) hd2; have ff0 := free_blk (i := 0) hd2; have ff1 := free_blk (i := 1) hd2; have ff2 := free_blk (i := 2) hd2; simp at f0 f1 f2
    have x0 := cell_blk (i := 0) hc2; have x1 := cell_blk (i := 1) hc2; have xf0 := free_blk (i := 0) hc2; have xf1 := free_blk (i := 1) hc2; simp at x0 x1
    clear hwt hfw hlk hok hlead hcap hcm htc hGl hGb henv hE hEn hEk hEt hr hdk1 hc2 x0 x1 hd2
    go_wp2_with fail
    rw [← HW2.out]
    refine wp_loop_rounds 3 ?_
    rw [rounds_succ]
    go_wp2_with fail
    by_cases hz1 : R1.1 = 0
    · refine HDK1.out.mono ?_
      intro e w3 h3
      obtain ⟨a, m, c, q1, rfl, hq1, hdr1, hn1, b3⟩ := rdeck_ok h3 hz1
      have hk0 := (b3.block _ (heap_lt X0.out)).trans X0.out
      have hk1 := (b3.block _ (heap_lt X1.out)).trans X1.out
      have hkC : w3.heap[w.heap.size + 1 + 1]? = _ := (b3.block _ (heap_lt HC2.out)).trans HC2.out
      have hkD := (b3.block _ (heap_lt HD2.out)).trans HD2.out
      have hm1 := heap_lt hkC
      have hm2 := heap_lt hkD
      have hne : w.heap.size + 1 + 1 ≠ w1.heap.size := by omega
      obtain ⟨W3, hW3, gC, gD, gs, gb, gk⟩ := deck_set w3 (w.heap.size + 1 + 1) w1.heap.size 0 _ _ _ _ _ (.slice a m c) (.int .i64 0) (.int .i64 0) (.int .i64 0) _ _ hkC hkD hne
      have hB3 : Below w.heap.size w W3 := ((HB0.out.trans (HB02.out.mono HB0.out.size)).trans (b3.mono (by omega))).trans (gb _ (by omega) (by omega))
      have hG3 : W3.heap[G]? = w2.heap[G]? := by rw [gk G (by have := HGB.out; omega) (by have := HGB.out; omega)]; exact b3.block G HGB.out.2.2
      have hN3 : NatsAt W3 w2.heap.size (.slice a m c) R1.2.1 := ownsRow_same hn1 fun i hi => gk i (by have := (World.ownsRow.lt hn1 i hi).1; omega) (by have := (World.ownsRow.lt hn1 i hi).1; omega)
      have hp0 := (gk w.heap.size (by omega) (by omega)).trans hk0
      have hp1 := (gk (w.heap.size + 1) (by omega) (by omega)).trans hk1
      have gC' : W3.heap[w.heap.size + 1 + 1]? = some (.cells #[.slice a m c, .slice none 0 0] 23 (0, 0)) := gC
      rw [HE.out.1] at hq1
      rw [HE.out.2.1] at hdr1
      obtain ⟨R2, hR2⟩ : ∃ R2, oneDeck (ks.map (·.name)) R1.2.2 = R2 := ⟨_, rfl⟩
      have hdk2 := HDK.out W3 hB3 hG3 q1 hq1
      rw [hdr1, hR2] at hdk2
      have hr := HRR.out
      rw [hz1] at hr
      simp only [if_true] at hr
      rw [hR2] at hr
      have HRR := Lib.hid hr
      have HDK2 := Lib.hid hdk2
      have HW3 := Lib.hid hW3
      have HGC := Lib.hid gC'
      have HGD := Lib.hid gD
      have HB3 := Lib.hid hB3
      have HG3 := Lib.hid hG3
      have HN3 := Lib.hid hN3
      have HP0 := Lib.hid hp0
      have HP1 := Lib.hid hp1
      have HZ3 : Hid (w2.heap.size ≤ W3.heap.size) := Lib.hid (by have := b3.size; omega)
      have jq : (q1 : Int) < (ts.length : Int) := by omega
      have y0 := cell_blk (i := 0) hkD; have y1 := cell_blk (i := 1) hkD; have y2 := cell_blk (i := 2) hkD; have yf0 := free_blk (i := 0) hkD; have yf1 := free_blk (i := 1) hkD; have yf2 := free_blk (i := 2) hkD; simp at y0 y1 y2
      have z0 := cell_blk (i := 0) hkC; have z1 := cell_blk (i := 1) hkC; have zf0 := free_blk (i := 0) hkC; have zf1 := free_blk (i := 1) hkC; simp at z0 z1
      clear f0 f1 f2 ff0 ff1 ff2 x0 x1 xf0 xf1 hl2 hl3
      go_wp2_with fail
      rw [← HW3.out]
      clear y0 y1 y2 yf0 yf1 yf2 z0 z1 zf0 zf1 hk0 hk1 hkC hkD hm1 hm2 hW3 gC gC' gD gs gb gk hB3 hG3 hN3 hp0 hp1 hr hdk2 hdr1 hn1 b3 hR2
      have hd3 := HGD.out
      have hc3 := HGC.out
      have hl2 := heap_lt hd3
      have hl3 := heap_lt hc3
      have f0 := cell_blk (i := 0) hd3; have f1 := cell_blk (i := 1) hd3; have f2 := cell_blk (i := 2) hd3; have ff0 := free_blk (i := 0) hd3; have ff1 := free_blk (i := 1) hd3; have ff2 := free_blk (i := 2) hd3; simp at f0 f1 f2
      have x0 := cell_blk (i := 0) hc3; have x1 := cell_blk (i := 1) hc3; have xf0 := free_blk (i := 0) hc3; have xf1 := free_blk (i := 1) hc3; simp at x0 x1
      clear hd3 hc3
      rw [rounds_succ]
      go_wp2_with fail
      by_cases hz2 : R2.1 = 0
      · refine HDK2.out.mono ?_
        intro e w4 h4
        obtain ⟨a', m', c', q2, rfl, hq2, hdr2, hn2, b4⟩ := rdeck_ok h4 hz2
        rw [HE.out.1] at hq2
        rw [HE.out.2.1] at hdr2
        have hr := HRR.out
        rw [if_pos hz2] at hr
        have hcons : (ts.map Tok.kt).drop q2 = (tk ts q2).kt :: (ts.map Tok.kt).drop (q2 + 1) := by
          have := te_drop (E := E) (p := q2) (by rw [HE.out.1]; exact hq2)
          rw [HE.out.2.1, HE.out.2.2] at this
          exact this
        rw [← hdr2, hcons] at hr
        obtain ⟨s0, s1, s2, s3⟩ := HTC.out q2 _ (tk_get hq2)
        have HN4a := Lib.hid (ownsRow_later HN3.out b4)
        have HN2 := Lib.hid hn2
        have hG4 : w4.heap[G]? = w2.heap[G]? := (b4.block G (by have := HGB.out; have := HZ3.out; omega)).trans HG3.out
        have jq2 : (q2 : Int) < (ts.length : Int) := by omega
        have jq0 : (0 : Int) ≤ (q2 : Int) := by omega
        by_cases hkd : (tk ts q2).kind = 0
        · have qk : (((tk ts q2).kind : Int) == 0) = true := by simp [hkd]
          have he : ending R1.2.1 R2.2.1 ((tk ts q2).kt :: (ts.map Tok.kt).drop (q2 + 1)) = (0, R1.2.1, R2.2.1, (tk ts q2).kt :: (ts.map Tok.kt).drop (q2 + 1)) := by
            show (if (tk ts q2).kind = 0 then _ else _) = _
            rw [if_pos hkd]
          rw [he] at hr
          simp only [if_true] at hr
          have HRR := Lib.hid hr
          clear hr he hcons hdr2 hkd
          have hk0 := (b4.block _ (heap_lt HP0.out)).trans HP0.out
          have hk1 := (b4.block _ (heap_lt HP1.out)).trans HP1.out
          have hkC : w4.heap[w.heap.size + 1 + 1]? = _ := (b4.block _ (heap_lt HGC.out)).trans HGC.out
          have hkD := (b4.block _ (heap_lt HGD.out)).trans HGD.out
          have hm1 := heap_lt hkC
          have hm2 := heap_lt hkD
          have hne : w.heap.size + 1 + 1 ≠ w1.heap.size := by omega
          obtain ⟨W4, hWn, gC, gD, gs, gb, gk⟩ := deck_set w4 (w.heap.size + 1 + 1) w1.heap.size 1 _ _ _ _ _ (.slice a' m' c') (.int .i64 0) (.int .i64 0) (.int .i64 0) _ _ hkC hkD hne
          have hBn : Below w.heap.size w W4 := (HB3.out.trans (b4.mono (by have := HB3.out.size; omega))).trans (gb _ (by omega) (by omega))
          have hp0 := (gk w.heap.size (by omega) (by omega)).trans hk0
          have hp1 := (gk (w.heap.size + 1) (by omega) (by omega)).trans hk1
          have gC' : W4.heap[w.heap.size + 1 + 1]? = some (.cells #[.slice a m c, .slice a' m' c'] 23 (0, 0)) := gC
          have hG5 : W4.heap[G]? = w2.heap[G]? := (gk G (by have := HGB.out; omega) (by have := HGB.out; omega)).trans hG4
          have hN5a : NatsAt W4 w2.heap.size (.slice a m c) R1.2.1 := ownsRow_same HN4a.out fun i hi => by
            have k1 := (World.ownsRow.lt HN4a.out i hi).1
            have k2 := HS2.out
            exact gk i (by omega) (by omega)
          have hN5b : NatsAt W4 w2.heap.size (.slice a' m' c') R2.2.1 := ownsRow_same (ownsRow_base HN2.out HZ3.out) fun i hi => by
            have k1 := (World.ownsRow.lt (ownsRow_base HN2.out HZ3.out) i hi).1
            have k2 := HS2.out
            exact gk i (by omega) (by omega)
          have HNA := Lib.hid hN5a
          have HNB := Lib.hid hN5b
          have t0 := (World.cell?_of_block (w := w2) (a := ⟨G, q2 * 4, none⟩) hG5).trans s0
          have t1 := (World.cell?_of_block (w := w2) (a := ⟨G, q2 * 4 + 1, none⟩) hG5).trans s1
          have t2 := (World.cell?_of_block (w := w2) (a := ⟨G, q2 * 4 + 2, none⟩) hG5).trans s2
          have t3 := (World.cell?_of_block (w := w2) (a := ⟨G, q2 * 4 + 3, none⟩) hG5).trans s3
          clear hN5a hN5b hG4 hG5 s0 s1 s2 s3 hn2
          have HWn := Lib.hid hWn
          have HGC := Lib.hid gC'
          have HGD := Lib.hid gD
          have HBn := Lib.hid hBn
          have HP0 := Lib.hid hp0
          have HP1 := Lib.hid hp1
          have y0 := cell_blk (i := 0) hkD; have y1 := cell_blk (i := 1) hkD; have y2 := cell_blk (i := 2) hkD; have yf0 := free_blk (i := 0) hkD; have yf1 := free_blk (i := 1) hkD; have yf2 := free_blk (i := 2) hkD; simp at y0 y1 y2
          have z0 := cell_blk (i := 0) hkC; have z1 := cell_blk (i := 1) hkC; have zf0 := free_blk (i := 0) hkC; have zf1 := free_blk (i := 1) hkC; simp at z0 z1
          clear f0 f1 f2 ff0 ff1 ff2 x0 x1 xf0 xf1 hl2 hl3
          go_wp2_with fail
          rw [← HWn.out]
          clear y0 y1 y2 yf0 yf1 yf2 z0 z1 zf0 zf1 hk0 hk1 hkC hkD hm1 hm2 hWn gC gC' gD gs gb gk hBn hp0 hp1 b4
          have hd3 := HGD.out
          have hc3 := HGC.out
          have hl2 := heap_lt hd3
          have hl3 := heap_lt hc3
          have hl0 := heap_lt HP0.out
          have hl1 := heap_lt HP1.out
          have hpp0 := HP0.out
          have hpp1 := HP1.out
          have f0 := cell_blk (i := 0) hd3; have f1 := cell_blk (i := 1) hd3; have f2 := cell_blk (i := 2) hd3; have ff0 := free_blk (i := 0) hd3; have ff1 := free_blk (i := 1) hd3; have ff2 := free_blk (i := 2) hd3; simp at f0 f1 f2
          have x0 := cell_blk (i := 0) hc3; have x1 := cell_blk (i := 1) hc3; have xf0 := free_blk (i := 0) hc3; have xf1 := free_blk (i := 1) hc3; simp at x0 x1
          have i0 := cell_blk (i := 0) hpp0; have i1 := cell_blk (i := 1) hpp0; have if0 := free_blk (i := 0) hpp0; have if1 := free_blk (i := 1) hpp0; simp at i0 i1
          have j0 := cell_blk (i := 0) hpp1; have j1 := cell_blk (i := 1) hpp1; have j2 := cell_blk (i := 2) hpp1; have jf0 := free_blk (i := 0) hpp1; have jf1 := free_blk (i := 1) hpp1; have jf2 := free_blk (i := 2) hpp1; simp at j0 j1 j2
          clear hd3 hc3 hpp0 hpp1
          rw [rounds_succ]
          go_wp2_with fail
          obtain ⟨WF, hWF, g0, g1, gs, gb, gn⟩ := five_set _ w.heap.size _ _ _ _ _ (.slice a m c) (.slice a' m' c') (.int .i64 0) (.int .i64 0) (.int .i64 0) _ _ HP0.out HP1.out
          rw [← hWF]
          refine bodyPost_ret (results_cells2 rfl _ _ _ w.heap.size (w.heap.size + 1) _ _ _ _ _ _ _ _ _ rfl rfl g0 g1 rfl rfl (by kernel_rfl) (by kernel_rfl)) rfl ?_
          have k2 := HS2.out
          refine ⟨a, m, c, a', m', c', by rw [HRR.out]; rfl, ?_, ?_, HBn.out.trans gb⟩
          · rw [HRR.out]; exact ownsRow_base (gn _ _ _ HNA.out (by omega)) (by omega)
          · rw [HRR.out]; exact ownsRow_base (gn _ _ _ HNB.out (by omega)) (by omega)
        · have qk : (((tk ts q2).kind : Int) == 0) = false := by simp only [beq_eq_false_iff_ne, ne_eq]; omega
          have he : ending R1.2.1 R2.2.1 ((tk ts q2).kt :: (ts.map Tok.kt).drop (q2 + 1)) = (5, [], [], (tk ts q2).kt :: (ts.map Tok.kt).drop (q2 + 1)) := by
            show (if (tk ts q2).kind = 0 then _ else _) = _
            rw [if_neg hkd]
          rw [he, if_neg (by simp), ← hcons] at hr
          simp only [] at hr
          rw [List.length_drop, List.length_map, show ts.length - (ts.length - q2) = q2 by omega] at hr
          have HRR := Lib.hid hr
          clear hr he hcons hdr2 hkd
          have hk0 := (b4.block _ (heap_lt HP0.out)).trans HP0.out
          have hk1 := (b4.block _ (heap_lt HP1.out)).trans HP1.out
          have hkC : w4.heap[w.heap.size + 1 + 1]? = _ := (b4.block _ (heap_lt HGC.out)).trans HGC.out
          have hkD := (b4.block _ (heap_lt HGD.out)).trans HGD.out
          have hm1 := heap_lt hkC
          have hm2 := heap_lt hkD
          have hne : w.heap.size + 1 + 1 ≠ w1.heap.size := by omega
          obtain ⟨W4, hWn, gC, gD, gs, gb, gk⟩ := deck_set w4 (w.heap.size + 1 + 1) w1.heap.size 1 _ _ _ _ _ (.slice a' m' c') (.int .i64 0) (.int .i64 0) (.int .i64 0) _ _ hkC hkD hne
          have hBn : Below w.heap.size w W4 := (HB3.out.trans (b4.mono (by have := HB3.out.size; omega))).trans (gb _ (by omega) (by omega))
          have hp0 := (gk w.heap.size (by omega) (by omega)).trans hk0
          have hp1 := (gk (w.heap.size + 1) (by omega) (by omega)).trans hk1
          have gC' : W4.heap[w.heap.size + 1 + 1]? = some (.cells #[.slice a m c, .slice a' m' c'] 23 (0, 0)) := gC
          have hG5 : W4.heap[G]? = w2.heap[G]? := (gk G (by have := HGB.out; omega) (by have := HGB.out; omega)).trans hG4
          have hN5a : NatsAt W4 w2.heap.size (.slice a m c) R1.2.1 := ownsRow_same HN4a.out fun i hi => by
            have k1 := (World.ownsRow.lt HN4a.out i hi).1
            have k2 := HS2.out
            exact gk i (by omega) (by omega)
          have hN5b : NatsAt W4 w2.heap.size (.slice a' m' c') R2.2.1 := ownsRow_same (ownsRow_base HN2.out HZ3.out) fun i hi => by
            have k1 := (World.ownsRow.lt (ownsRow_base HN2.out HZ3.out) i hi).1
            have k2 := HS2.out
            exact gk i (by omega) (by omega)
          have HNA := Lib.hid hN5a
          have HNB := Lib.hid hN5b
          have t0 := (World.cell?_of_block (w := w2) (a := ⟨G, q2 * 4, none⟩) hG5).trans s0
          have t1 := (World.cell?_of_block (w := w2) (a := ⟨G, q2 * 4 + 1, none⟩) hG5).trans s1
          have t2 := (World.cell?_of_block (w := w2) (a := ⟨G, q2 * 4 + 2, none⟩) hG5).trans s2
          have t3 := (World.cell?_of_block (w := w2) (a := ⟨G, q2 * 4 + 3, none⟩) hG5).trans s3
          clear hN5a hN5b hG4 hG5 s0 s1 s2 s3 hn2
          have HWn := Lib.hid hWn
          have HGC := Lib.hid gC'
          have HGD := Lib.hid gD
          have HBn := Lib.hid hBn
          have HP0 := Lib.hid hp0
          have HP1 := Lib.hid hp1
          have y0 := cell_blk (i := 0) hkD; have y1 := cell_blk (i := 1) hkD; have y2 := cell_blk (i := 2) hkD; have yf0 := free_blk (i := 0) hkD; have yf1 := free_blk (i := 1) hkD; have yf2 := free_blk (i := 2) hkD; simp at y0 y1 y2
          have z0 := cell_blk (i := 0) hkC; have z1 := cell_blk (i := 1) hkC; have zf0 := free_blk (i := 0) hkC; have zf1 := free_blk (i := 1) hkC; simp at z0 z1
          clear f0 f1 f2 ff0 ff1 ff2 x0 x1 xf0 xf1 hl2 hl3
          go_wp2_with fail
          rw [← HWn.out]
          clear y0 y1 y2 yf0 yf1 yf2 z0 z1 zf0 zf1 hk0 hk1 hkC hkD hm1 hm2 hWn gC gC' gD gs gb gk hBn hp0 hp1 b4
          have hd3 := HGD.out
          have hc3 := HGC.out
          have hl2 := heap_lt hd3
          have hl3 := heap_lt hc3
          have hl0 := heap_lt HP0.out
          have hl1 := heap_lt HP1.out
          have hpp0 := HP0.out
          have hpp1 := HP1.out
          have f0 := cell_blk (i := 0) hd3; have f1 := cell_blk (i := 1) hd3; have f2 := cell_blk (i := 2) hd3; have ff0 := free_blk (i := 0) hd3; have ff1 := free_blk (i := 1) hd3; have ff2 := free_blk (i := 2) hd3; simp at f0 f1 f2
          have x0 := cell_blk (i := 0) hc3; have x1 := cell_blk (i := 1) hc3; have xf0 := free_blk (i := 0) hc3; have xf1 := free_blk (i := 1) hc3; simp at x0 x1
          have i0 := cell_blk (i := 0) hpp0; have i1 := cell_blk (i := 1) hpp0; have if0 := free_blk (i := 0) hpp0; have if1 := free_blk (i := 1) hpp0; simp at i0 i1
          have j0 := cell_blk (i := 0) hpp1; have j1 := cell_blk (i := 1) hpp1; have j2 := cell_blk (i := 2) hpp1; have jf0 := free_blk (i := 0) hpp1; have jf1 := free_blk (i := 1) hpp1; have jf2 := free_blk (i := 2) hpp1; simp at j0 j1 j2
          clear hd3 hc3 hpp0 hpp1
          rw [rounds_succ]
          go_wp2_with fail
          obtain ⟨W5, hW5⟩ : ∃ W5, W5 = ((W4.setCell ⟨w1.heap.size, 0, none⟩ (.int .i64 5)).setCell ⟨w1.heap.size, 1, none⟩ (.int .i64 (tk ts q2).spot.1)).setCell ⟨w1.heap.size, 2, none⟩ (.int .i64 (tk ts q2).spot.2) := ⟨_, rfl⟩
          have hD5 : W5.heap[w1.heap.size]? = some (.cells #[.int .i64 5, .int .i64 (tk ts q2).spot.1, .int .i64 (tk ts q2).spot.2] 31 (0, 0)) := by rw [hW5]; exact flt_set _ _ _ HGD.out
          have hq0 : W5.heap[w.heap.size]? = some (.cells #[.slice none 0 0, .slice none 0 0] 23 (0, 0)) := by
            rw [hW5, heap_setCell_other _ _ _ _ (by show w.heap.size ≠ w1.heap.size; omega), heap_setCell_other _ _ _ _ (by show w.heap.size ≠ w1.heap.size; omega), heap_setCell_other _ _ _ _ (by show w.heap.size ≠ w1.heap.size; omega)]; exact HP0.out
          have hq1' : W5.heap[w.heap.size + 1]? = some (.cells #[.int .i64 0, .int .i64 0, .int .i64 0] 31 (0, 0)) := by
            rw [hW5, heap_setCell_other _ _ _ _ (by show w.heap.size + 1 ≠ w1.heap.size; omega), heap_setCell_other _ _ _ _ (by show w.heap.size + 1 ≠ w1.heap.size; omega), heap_setCell_other _ _ _ _ (by show w.heap.size + 1 ≠ w1.heap.size; omega)]; exact HP1.out
          have hB5 : Below w.heap.size w W5 := by rw [hW5]; exact flt_below _ _ _ HBn.out (by omega)
          rw [← hW5]
          have HQ0 := Lib.hid hq0
          have HQ1 := Lib.hid hq1'
          have HB5 := Lib.hid hB5
          have hl2 := heap_lt hD5
          have hl0 := heap_lt hq0
          have hl1 := heap_lt hq1'
          clear f0 f1 f2 ff0 ff1 ff2 x0 x1 xf0 xf1 i0 i1 if0 if1 j0 j1 j2 jf0 jf1 jf2 hW5 hB5
          have f0 := cell_blk (i := 0) hD5; have f1 := cell_blk (i := 1) hD5; have f2 := cell_blk (i := 2) hD5; have ff0 := free_blk (i := 0) hD5; have ff1 := free_blk (i := 1) hD5; have ff2 := free_blk (i := 2) hD5; simp at f0 f1 f2
          have i0 := cell_blk (i := 0) hq0; have i1 := cell_blk (i := 1) hq0; have if0 := free_blk (i := 0) hq0; have if1 := free_blk (i := 1) hq0; simp at i0 i1
          have j0 := cell_blk (i := 0) hq1'; have j1 := cell_blk (i := 1) hq1'; have j2 := cell_blk (i := 2) hq1'; have jf0 := free_blk (i := 0) hq1'; have jf1 := free_blk (i := 1) hq1'; have jf2 := free_blk (i := 2) hq1'; simp at j0 j1 j2
          clear hD5 hq0 hq1'
          go_region
          all_goals
            go_wp2
            obtain ⟨WF, hWF, g0, g1, gs, gb, -⟩ := five_set _ w.heap.size _ _ _ _ _ (.slice none 0 0) (.slice none 0 0) (.int .i64 5) (.int .i64 (tk ts q2).spot.1) (.int .i64 (tk ts q2).spot.2) _ _ HQ0.out HQ1.out
            rw [← hWF]
            refine bodyPost_ret (results_cells2 rfl _ _ _ w.heap.size (w.heap.size + 1) _ _ _ _ _ _ _ _ _ rfl rfl g0 g1 rfl rfl (by kernel_rfl) (by kernel_rfl)) rfl ?_
            rw [HRR.out]
            exact ⟨none, 0, 0, none, 0, 0, rfl, World.ownsRow_nil _ _ _ _, World.ownsRow_nil _ _ _ _, (Below.trans HB5.out gb).drew⟩
      · refine HDK2.out.mono ?_
        intro e w4 h4
        obtain ⟨a', m', c', q2, rfl, hq2, hdr2, b4⟩ := rdeck_bad h4 hz2
        rw [HE.out.1] at hq2
        rw [HE.out.2.1] at hdr2
        rw [HE.out.2.2]
        have hr := HRR.out
        rw [if_neg hz2] at hr
        simp only [] at hr
        rw [if_neg hz2, ← hdr2, List.length_drop, List.length_map, show ts.length - (ts.length - q2) = q2 by omega] at hr
        have HRR := Lib.hid hr
        have qz : ((R2.1 : Int) == 0) = false := by simp only [beq_eq_false_iff_ne, ne_eq]; omega
        clear hr hdr2
        have hk0 := (b4.block _ (heap_lt HP0.out)).trans HP0.out
        have hk1 := (b4.block _ (heap_lt HP1.out)).trans HP1.out
        have hkC : w4.heap[w.heap.size + 1 + 1]? = _ := (b4.block _ (heap_lt HGC.out)).trans HGC.out
        have hkD := (b4.block _ (heap_lt HGD.out)).trans HGD.out
        have hm1 := heap_lt hkC
        have hm2 := heap_lt hkD
        have hne : w.heap.size + 1 + 1 ≠ w1.heap.size := by omega
        obtain ⟨W4, hWn, gC, gD, gs, gb, gk⟩ := deck_set w4 (w.heap.size + 1 + 1) w1.heap.size 1 _ _ _ _ _ (.slice a' m' c') (.int .i64 R2.1) (.int .i64 (tk ts q2).spot.1) (.int .i64 (tk ts q2).spot.2) _ _ hkC hkD hne
        have hBn : Below w.heap.size w W4 := (HB3.out.trans (b4.mono (by have := HB3.out.size; omega))).trans (gb _ (by omega) (by omega))
        have hp0 := (gk w.heap.size (by omega) (by omega)).trans hk0
        have hp1 := (gk (w.heap.size + 1) (by omega) (by omega)).trans hk1
        have gC' : W4.heap[w.heap.size + 1 + 1]? = some (.cells #[.slice a m c, .slice a' m' c'] 23 (0, 0)) := gC
        have HWn := Lib.hid hWn
        have HGC := Lib.hid gC'
        have HGD := Lib.hid gD
        have HBn := Lib.hid hBn
        have HP0 := Lib.hid hp0
        have HP1 := Lib.hid hp1
        have y0 := cell_blk (i := 0) hkD; have y1 := cell_blk (i := 1) hkD; have y2 := cell_blk (i := 2) hkD; have yf0 := free_blk (i := 0) hkD; have yf1 := free_blk (i := 1) hkD; have yf2 := free_blk (i := 2) hkD; simp at y0 y1 y2
        have z0 := cell_blk (i := 0) hkC; have z1 := cell_blk (i := 1) hkC; have zf0 := free_blk (i := 0) hkC; have zf1 := free_blk (i := 1) hkC; simp at z0 z1
        clear f0 f1 f2 ff0 ff1 ff2 x0 x1 xf0 xf1 hl2 hl3
        go_wp2_with fail
        rw [← HWn.out]
        clear y0 y1 y2 yf0 yf1 yf2 z0 z1 zf0 zf1 hk0 hk1 hkC hkD hm1 hm2 hWn gC gC' gD gs gb gk hBn hp0 hp1 b4
        have hd3 := HGD.out
        have hc3 := HGC.out
        have hl2 := heap_lt hd3
        have hl3 := heap_lt hc3
        have hl0 := heap_lt HP0.out
        have hl1 := heap_lt HP1.out
        have hpp0 := HP0.out
        have hpp1 := HP1.out
        have f0 := cell_blk (i := 0) hd3; have f1 := cell_blk (i := 1) hd3; have f2 := cell_blk (i := 2) hd3; have ff0 := free_blk (i := 0) hd3; have ff1 := free_blk (i := 1) hd3; have ff2 := free_blk (i := 2) hd3; simp at f0 f1 f2
        have x0 := cell_blk (i := 0) hc3; have x1 := cell_blk (i := 1) hc3; have xf0 := free_blk (i := 0) hc3; have xf1 := free_blk (i := 1) hc3; simp at x0 x1
        have i0 := cell_blk (i := 0) hpp0; have i1 := cell_blk (i := 1) hpp0; have if0 := free_blk (i := 0) hpp0; have if1 := free_blk (i := 1) hpp0; simp at i0 i1
        have j0 := cell_blk (i := 0) hpp1; have j1 := cell_blk (i := 1) hpp1; have j2 := cell_blk (i := 2) hpp1; have jf0 := free_blk (i := 0) hpp1; have jf1 := free_blk (i := 1) hpp1; have jf2 := free_blk (i := 2) hpp1; simp at j0 j1 j2
        clear hd3 hc3 hpp0 hpp1
        rw [rounds_succ]
        go_wp2_with fail
        go_region
        all_goals
          go_wp2
          obtain ⟨WF, hWF, g0, g1, gs, gb, -⟩ := five_set _ w.heap.size _ _ _ _ _ (.slice none 0 0) (.slice none 0 0) (.int .i64 (R2.1 : Nat)) (.int .i64 (tk ts q2).spot.1) (.int .i64 (tk ts q2).spot.2) _ _ HP0.out HP1.out
          rw [← hWF]
          refine bodyPost_ret (results_cells2 rfl _ _ _ w.heap.size (w.heap.size + 1) _ _ _ _ _ _ _ _ _ rfl rfl g0 g1 rfl rfl (by kernel_rfl) (by kernel_rfl)) rfl ?_
          rw [HRR.out]
          exact ⟨none, 0, 0, none, 0, 0, rfl, World.ownsRow_nil _ _ _ _, World.ownsRow_nil _ _ _ _, (Below.trans HBn.out gb).drew⟩
    · refine HDK1.out.mono ?_
      intro e w3 h3
      obtain ⟨a, m, c, q1, rfl, hq1, hdr1, b3⟩ := rdeck_bad h3 hz1
      rw [HE.out.1] at hq1
      rw [HE.out.2.1] at hdr1
      rw [HE.out.2.2]
      have hr := HRR.out
      rw [if_neg hz1] at hr
      simp only [] at hr
      rw [if_neg hz1, ← hdr1, List.length_drop, List.length_map, show ts.length - (ts.length - q1) = q1 by omega] at hr
      have HRR := Lib.hid hr
      have qz : ((R1.1 : Int) == 0) = false := by simp only [beq_eq_false_iff_ne, ne_eq]; omega
      clear hr hdr1
      have hk0 := (b3.block _ (heap_lt X0.out)).trans X0.out
      have hk1 := (b3.block _ (heap_lt X1.out)).trans X1.out
      have hkC : w3.heap[w.heap.size + 1 + 1]? = _ := (b3.block _ (heap_lt HC2.out)).trans HC2.out
      have hkD := (b3.block _ (heap_lt HD2.out)).trans HD2.out
      have hm1 := heap_lt hkC
      have hm2 := heap_lt hkD
      have hne : w.heap.size + 1 + 1 ≠ w1.heap.size := by omega
      obtain ⟨W3, hWn, gC, gD, gs, gb, gk⟩ := deck_set w3 (w.heap.size + 1 + 1) w1.heap.size 0 _ _ _ _ _ (.slice a m c) (.int .i64 R1.1) (.int .i64 (tk ts q1).spot.1) (.int .i64 (tk ts q1).spot.2) _ _ hkC hkD hne
      have hBn : Below w.heap.size w W3 := ((HB0.out.trans (HB02.out.mono HB0.out.size)).trans (b3.mono (by have := (HB0.out.trans (HB02.out.mono HB0.out.size)).size; omega))).trans (gb _ (by omega) (by omega))
      have hp0 := (gk w.heap.size (by omega) (by omega)).trans hk0
      have hp1 := (gk (w.heap.size + 1) (by omega) (by omega)).trans hk1
      have gC' : W3.heap[w.heap.size + 1 + 1]? = some (.cells #[.slice a m c, .slice none 0 0] 23 (0, 0)) := gC
      have HWn := Lib.hid hWn
      have HGC := Lib.hid gC'
      have HGD := Lib.hid gD
      have HBn := Lib.hid hBn
      have HP0 := Lib.hid hp0
      have HP1 := Lib.hid hp1
      have y0 := cell_blk (i := 0) hkD; have y1 := cell_blk (i := 1) hkD; have y2 := cell_blk (i := 2) hkD; have yf0 := free_blk (i := 0) hkD; have yf1 := free_blk (i := 1) hkD; have yf2 := free_blk (i := 2) hkD; simp at y0 y1 y2
      have z0 := cell_blk (i := 0) hkC; have z1 := cell_blk (i := 1) hkC; have zf0 := free_blk (i := 0) hkC; have zf1 := free_blk (i := 1) hkC; simp at z0 z1
      clear f0 f1 f2 ff0 ff1 ff2 x0 x1 xf0 xf1 hl2 hl3
      go_wp2_with fail
      rw [← HWn.out]
      clear y0 y1 y2 yf0 yf1 yf2 z0 z1 zf0 zf1 hk0 hk1 hkC hkD hm1 hm2 hWn gC gC' gD gs gb gk hBn hp0 hp1 b3
      have hd3 := HGD.out
      have hc3 := HGC.out
      have hl2 := heap_lt hd3
      have hl3 := heap_lt hc3
      have hl0 := heap_lt HP0.out
      have hl1 := heap_lt HP1.out
      have hpp0 := HP0.out
      have hpp1 := HP1.out
      have f0 := cell_blk (i := 0) hd3; have f1 := cell_blk (i := 1) hd3; have f2 := cell_blk (i := 2) hd3; have ff0 := free_blk (i := 0) hd3; have ff1 := free_blk (i := 1) hd3; have ff2 := free_blk (i := 2) hd3; simp at f0 f1 f2
      have x0 := cell_blk (i := 0) hc3; have x1 := cell_blk (i := 1) hc3; have xf0 := free_blk (i := 0) hc3; have xf1 := free_blk (i := 1) hc3; simp at x0 x1
      have i0 := cell_blk (i := 0) hpp0; have i1 := cell_blk (i := 1) hpp0; have if0 := free_blk (i := 0) hpp0; have if1 := free_blk (i := 1) hpp0; simp at i0 i1
      have j0 := cell_blk (i := 0) hpp1; have j1 := cell_blk (i := 1) hpp1; have j2 := cell_blk (i := 2) hpp1; have jf0 := free_blk (i := 0) hpp1; have jf1 := free_blk (i := 1) hpp1; have jf2 := free_blk (i := 2) hpp1; simp at j0 j1 j2
      clear hd3 hc3 hpp0 hpp1
      rw [rounds_succ]
      go_wp2_with fail
      go_region
      all_goals
        go_wp2
        obtain ⟨WF, hWF, g0, g1, gs, gb, -⟩ := five_set _ w.heap.size _ _ _ _ _ (.slice none 0 0) (.slice none 0 0) (.int .i64 (R1.1 : Nat)) (.int .i64 (tk ts q1).spot.1) (.int .i64 (tk ts q1).spot.2) _ _ HP0.out HP1.out
        rw [← hWF]
        refine bodyPost_ret (results_cells2 rfl _ _ _ w.heap.size (w.heap.size + 1) _ _ _ _ _ _ _ _ _ rfl rfl g0 g1 rfl rfl (by kernel_rfl) (by kernel_rfl)) rfl ?_
        rw [HRR.out]
        exact ⟨none, 0, 0, none, 0, 0, rfl, World.ownsRow_nil _ _ _ _, World.ownsRow_nil _ _ _ _, (Below.trans HBn.out gb).drew⟩
  · have q0 : ((er : Int) == 0) = false := by simp only [beq_eq_false_iff_ne, ne_eq]; omega
    have hr := HR.out
    rw [if_neg he] at hr
    have HRR := Lib.hid hr
    have hx0 := (HB02.out.block _ (heap_lt HR0.out)).trans HR0.out
    have hx1 := (HB02.out.block _ (heap_lt HR1.out)).trans HR1.out
    have X0 := Lib.hid hx0
    have X1 := Lib.hid hx1
    have hd2 := HD2.out
    have l0 := heap_lt hx0
    have l1 := heap_lt hx1
    have l2 := heap_lt hd2
    have f0 := cell_blk (i := 0) hd2; have f1 := cell_blk (i := 1) hd2; have f2 := cell_blk (i := 2) hd2; have ff0 := free_blk (i := 0) hd2; have ff1 := free_blk (i := 1) hd2; have ff2 := free_blk (i := 2) hd2; simp at f0 f1 f2
    have x0 := cell_blk (i := 0) hx0; have x1 := cell_blk (i := 1) hx0; have xf0 := free_blk (i := 0) hx0; have xf1 := free_blk (i := 1) hx0; simp at x0 x1
    have y0 := cell_blk (i := 0) hx1; have y1 := cell_blk (i := 1) hx1; have y2 := cell_blk (i := 2) hx1; have yf0 := free_blk (i := 0) hx1; have yf1 := free_blk (i := 1) hx1; have yf2 := free_blk (i := 2) hx1; simp at y0 y1 y2
    clear hd2 hx0 hx1 he hr
    go_wp2_with fail
    rw [← HW2.out]
    refine wp_loop_rounds 3 ?_
    rw [rounds_succ]
    go_wp2_with fail
    go_region
    all_goals
      go_wp2
      obtain ⟨WF, hWF, g0, g1, gs, gb, -⟩ := five_set _ w.heap.size _ _ _ _ _ (.slice none 0 0) (.slice none 0 0) (.int .i64 (er : Nat)) (.int .i64 fl) (.int .i64 fc) _ _ X0.out X1.out
      rw [← hWF]
      refine bodyPost_ret (results_cells2 rfl _ _ _ w.heap.size (w.heap.size + 1) _ _ _ _ _ _ _ _ _ rfl rfl g0 g1 rfl rfl (by kernel_rfl) (by kernel_rfl)) rfl ?_
      rw [HRR.out]
      exact ⟨none, 0, 0, none, 0, 0, rfl, World.ownsRow_nil _ _ _ _, World.ownsRow_nil _ _ _ _, (Below.trans (HB0.out.trans (HB02.out.mono HB0.out.size)) gb).drew⟩
end Go.Proofs.YtbkjminjkjnkpaaGreatDoor
