import Derived.Test.YtbkjminjkjnkpaaGreatDoorQDkDecks
import Derived.Test.YtbkjminjkjnkpaaGreatDoorQDkPlace
/- Layer 5 (decks): decks.Read: what it answers, for every text and whatever kinds. -/
namespace Go.Proofs.YtbkjminjkjnkpaaGreatDoor
open Go.RowKit Go.Lib

theorem kts_few (s : ByteArray) (hs : s.size ≤ 65536) (h0 : (scanOf s).2.1 = 0) : (scanOf s).1.length ≤ 65537 := by
  have e1 : scanOf s = refGo s s.size 0 [] := by rw [scanOf_refOf]; unfold refOf; rw [if_neg (by omega)]
  have hm := kt_ref s s.size 0 [] (by omega)
  rw [show s.extract 0 s.size = s from ByteArray.extract_zero_size, ← e1] at hm
  cases hk : ktGo s.size s with
  | none => rw [hk] at hm; exact absurd h0 hm.1
  | some l =>
    rw [hk] at hm
    obtain ⟨l', e, -, -, hl⟩ := kt_ok _ _ _ hk
    have hlen : ((scanOf s).1.map Tok.kt).length = l.length := by rw [show (scanOf s).1.map Tok.kt = l by simpa using hm.2]
    rw [List.length_map, e, List.length_append] at hlen
    simp at hlen
    omega
theorem scan_size (s : ByteArray) (h0 : (scanOf s).2.1 = 0) : s.size ≤ 65536 := by
  rcases Nat.lt_or_ge 65536 s.size with h | h
  · unfold scanOf at h0
    rw [if_pos h] at h0
    cases h0
  · exact h

theorem five_set (X : World) (D : Nat) (a0 a1 b0 b1 b2 u0 u1 v0 v1 v2 : Value) (t t' : TypeId) (hd : X.heap[D]? = some (.cells #[a0, a1] t (0, 0))) (hf : X.heap[D + 1]? = some (.cells #[b0, b1, b2] t' (0, 0))) :
    ∃ W, W = ((((X.setCell ⟨D, 0, none⟩ u0).setCell ⟨D, 1, none⟩ u1).setCell ⟨D + 1, 0, none⟩ v0).setCell ⟨D + 1, 1, none⟩ v1).setCell ⟨D + 1, 2, none⟩ v2 ∧ W.heap[D]? = some (.cells #[u0, u1] t (0, 0)) ∧ W.heap[D + 1]? = some (.cells #[v0, v1, v2] t' (0, 0)) ∧ W.heap.size = X.heap.size ∧ Below D X W ∧
      (∀ B v ns, NatsAt X B v ns → D + 1 < B → NatsAt W B v ns) := by
  refine ⟨_, rfl, ?_, ?_, by simp [World.setCell], ?_, fun B v ns h hB => ?_⟩
  · rw [heap_set_far (by simp), heap_set_far (by simp), heap_set_far (by simp)]
    exact heap_set (i := 1) (heap_set (i := 0) hd u0) u1
  · have h2 : ((X.setCell ⟨D, 0, none⟩ u0).setCell ⟨D, 1, none⟩ u1).heap[D + 1]? = some (.cells #[b0, b1, b2] t' (0, 0)) := by
      rw [heap_set_far (by simp), heap_set_far (by simp)]; exact hf
    exact heap_set (i := 2) (heap_set (i := 1) (heap_set (i := 0) h2 v0) v1) v2
  · exact (((((Below.refl D X).setCell (p := ⟨D, 0, none⟩) (Nat.le_refl _) _).setCell (p := ⟨D, 1, none⟩) (Nat.le_refl _) _).setCell (p := ⟨D + 1, 0, none⟩) (Nat.le_succ _) _).setCell (p := ⟨D + 1, 1, none⟩) (Nat.le_succ _) _).setCell (p := ⟨D + 1, 2, none⟩) (Nat.le_succ _) _
  · exact ownsRow_set (ownsRow_set (ownsRow_set (ownsRow_set (ownsRow_set h (by simp; omega) _) (by simp; omega) _) (by simp; omega) _) (by simp; omega) _) (by simp; omega) _
/-- What Read answers. -/
def ReadEnds (w : World) (r : (Nat × (Int × Int)) × List Nat × List Nat) (e : Ending) (w' : World) : Prop :=
  ∃ a n c a' n' c', e = .returned (.tuple #[.agg #[.slice a n c, .slice a' n' c'], .agg #[.int .i64 r.1.1, .int .i64 r.1.2.1, .int .i64 r.1.2.2]]) ∧ NatsAt w' w.heap.size (.slice a n c) r.2.1 ∧ NatsAt w' w.heap.size (.slice a' n' c') r.2.2 ∧ Below w.heap.size w w'

set_option maxHeartbeats 4000000 in
set_option maxRecDepth 100000 in
theorem read_any (s : ByteArray) (p : Option Addr) (c : Nat) (ks : List KC) (w : World) (hs : s.size ≤ maxLen) (hK : KindsAt w p ks) (hm : ks.length ≤ 4611686018427387904) (hn : ∀ k ∈ ks, k.name.size ≤ maxLen) (hT : Tabs w) :
    Calls Tryz.prog 6 #[.string s, .slice p ks.length c] w (ReadEnds w (readOf (ks.map (·.name)) s)) := by
  have HT := Lib.hid hT
  have HK := Lib.hid hK
  have HN := Lib.hid hn
  have htok : Hid (∀ W, Tabs W → _) := fun W hW => tokens_any s W hs hW
  obtain ⟨R, hR⟩ : ∃ R, R = readOf (ks.map (·.name)) s := ⟨_, rfl⟩
  rw [← hR]
  unfold readOf at hR
  have hfew := kts_few s
  have hsz := scan_size s
  have hwt := wtoks_scan s
  unfold ktsOf at hR
  generalize scanOf s = T at *
  obtain ⟨ts, er, sp⟩ := T
  obtain ⟨l, cl⟩ := sp
  simp only [] at hfew hsz hwt hR
  have HR := Lib.hid hR
  have Hfew := Lib.hid hfew
  have Hsz := Lib.hid hsz
  have Hwt := Lib.hid hwt
  clear hT hK hn hR hfew hsz hwt
  have hm2 : ks.length < maxLen := by unfold maxLen; omega
  go_enter Tryz.func6, Tryz.ntmps6
  go_wp2_with fail
  have hb0 : Below w.heap.size w ((w.alloc (.cells #[.slice none 0 0, .slice none 0 0] 23)).alloc (.cells #[.int .i64 0, .int .i64 0, .int .i64 0] 31)) := (by repeat (first | (with_reducible exact Below.refl _ _) | (with_reducible assumption) | ((with_reducible refine Below.setCell ?_ ?_ _); rotate_left; focus (simp; done)) | ((with_reducible refine Below.alloc ?_ ?_ _); rotate_left; focus (simp; done)) | (with_reducible refine Below.drew ?_)))
  refine (htok.out _ (HT.out.below hb0)).mono ?_
  rintro e w1 h1
  obtain ⟨v, rfl, hv, b1⟩ := h1.at_
  clear h1
  have hv0 : HasToks w1 v ts := hv
  have hsz1 := b1.size
  simp only [World.size_alloc] at hsz1
  have l0 : w.heap.size < w1.heap.size := by omega
  have l1 : w.heap.size + 1 < w1.heap.size := by omega
  have f0 : w1.heap[w.heap.size]? = some (.cells #[.slice none 0 0, .slice none 0 0] 23 (0, 0)) := (b1.block _ (by simp; omega)).trans ((Below.heap_alloc _ _ _ (by simp)).trans (heap_alloc_new w _))
  have f1 : w1.heap[w.heap.size + 1]? = some (.cells #[.int .i64 0, .int .i64 0, .int .i64 0] 31 (0, 0)) := (b1.block _ (by simp)).trans (by have := heap_alloc_new (w.alloc (.cells #[.slice none 0 0, .slice none 0 0] 23)) (.cells #[.int .i64 0, .int .i64 0, .int .i64 0] 31); rw [World.size_alloc] at this; exact this)
  have hB1 : Below w.heap.size w w1 := hb0.trans (b1.mono (by simp; omega))
  have B1 := Lib.hid hB1
  have HV := Lib.hid hv0
  have HF0 := Lib.hid f0
  have HF1 := Lib.hid f1
  clear hv hv0 b1 hb0 hB1
  by_cases he : er = 0
  · subst he
    have hwt := Hwt.out rfl
    have hfw := Hfew.out (Hsz.out rfl) rfl
    obtain ⟨g, cap, rfl, hcap, hcm, htc⟩ : ∃ g cap, v = .slice (some ⟨g, 0, none⟩) ts.length cap ∧ ts.length ≤ cap ∧ cap ≤ maxLen ∧ _ := by
      rcases HV.out.open with ⟨-, h0⟩ | h0
      · have := hwt.pos; rw [h0] at this; simp at this
      · exact h0
    have hgl : g < w1.heap.size := by
      obtain ⟨a, -⟩ := htc 0 _ (tk_get hwt.pos)
      exact World.block_lt_of_cell? _ _ a
    have hr := HR.out
    rw [if_pos rfl] at hr
    have HR := Lib.hid hr
    have HTC := Lib.hid htc
    have HW := Lib.hid hwt
    have HCAP := Lib.hid (And.intro hcap hcm)
    obtain ⟨A, hA⟩ : ∃ A, A = w1.alloc (.cells #[.int .i64 ((0 : Nat) : Int), .int .i64 l, .int .i64 cl] 31) := ⟨_, rfl⟩
    have hAs : A.heap.size = w1.heap.size + 1 := by rw [hA]; simp
    have hA1 : Below w1.heap.size w1 A := by rw [hA]; exact (Below.refl _ _).alloc (Nat.le_refl _) _
    have HA := Lib.hid hA
    have HA1 := Lib.hid hA1
    have hpl := placesOf_any p c ks A ((HK.out.below B1.out).below hA1) hm hm2 HN.out
    have HPL := Lib.hid hpl
    clear hr hcap hcm htc hwt f0 f1 hA hA1 hpl
    go_wp2_with fail
    rw [show w1.alloc (.cells #[.int .i64 0, .int .i64 l, .int .i64 cl] 31) = A from HA.out.symm]
    refine HPL.out.mono ?_
    rintro e w2 ⟨rfl, hp2, b2⟩
    have hs2 := b2.size
    obtain ⟨E, hE⟩ : ∃ E : DE, E = ⟨w2.heap.size, g, cap, A.heap.size, ts, ks.map (·.name)⟩ := ⟨_, rfl⟩
    obtain ⟨BB, hBB⟩ : ∃ BB, BB = w2.alloc (.cells #[.slice (some ⟨g, 0, none⟩) ts.length cap, .map (some A.heap.size)] 62) := ⟨_, rfl⟩
    have hB12 : Below w1.heap.size w1 w2 := HA1.out.trans (b2.mono (by omega))
    have hB1B : Below w1.heap.size w1 BB := by rw [hBB]; exact hB12.alloc (by omega) _
    have hBs : BB.heap.size = w2.heap.size + 1 := by rw [hBB]; simp
    have hER : E.R = w2.heap.size := by rw [hE]
    have hEn : E.n = ts.length := by rw [hE]; rfl
    have hEk : E.kts = ts.map Tok.kt := by rw [hE]; rfl
    have hEns : E.ns = ks.map (·.name) := by rw [hE]
    have hEts : E.ts = ts := by rw [hE]
    have hrd : DRd BB E 0 := by
      rw [hE]
      refine ⟨⟨fun k t hk => ?_, ?_, HCAP.out, ⟨ks.length, ?_⟩, ?_, HW.out, by simpa using Nat.le_of_lt hm2, hfw⟩, ?_, HW.out.pos⟩
      · obtain ⟨a, b, c, d⟩ := HTC.out k t hk
        exact ⟨cell_later hB1B a, cell_later hB1B b, cell_later hB1B c, cell_later hB1B d⟩
      · show g ≠ w2.heap.size; omega
      · refine hp2.same ?_
        rw [hBB]
        exact Below.heap_alloc _ _ _ hp2.lt
      · have := hp2.lt; show A.heap.size ≠ w2.heap.size; omega
      · rw [hBB]; exact heap_alloc_new _ _
    have hdk := ddecks_any E 0 BB hrd
    rw [List.drop_zero, hEns, hEk] at hdk
    have HDK := Lib.hid hdk
    have HBB := Lib.hid hBB
    have HB1B := Lib.hid hB1B
    have HE : Hid (E.n = ts.length ∧ E.kts = ts.map Tok.kt ∧ E.ts = ts) := ⟨hEn, hEk, hEts⟩
    clear hp2 b2 hE hBB hB12 hB1B hEn hEk hEns hEts hrd hdk
    generalize twoDecks (ks.map (·.name)) (ts.map Tok.kt) = RR at *
    go_wp2_with fail
    rw [show w2.alloc (.cells #[.slice (some ⟨g, 0, none⟩) ts.length cap, .map (some (w1.heap.size + 1))] 62) = BB by rw [HBB.out, hAs], ← hER]
    refine HDK.out.mono ?_
    rintro e w3 ⟨a, n, c', a', n', c'', q, rfl, g3, hq, hn3⟩
    have hs3 := g3.kept.size
    have f0 : w3.heap[w.heap.size]? = some (.cells #[.slice none 0 0, .slice none 0 0] 23 (0, 0)) := g3.kept.heap (by omega) ((HB1B.out.block _ l0).trans HF0.out)
    have f1 : w3.heap[w.heap.size + 1]? = some (.cells #[.int .i64 0, .int .i64 0, .int .i64 0] 31 (0, 0)) := g3.kept.heap (by omega) ((HB1B.out.block _ l1).trans HF1.out)
    have hb3 : Below w.heap.size w w3 := (B1.out.trans (HB1B.out.mono (by omega))).trans (g3.kept.below (by omega) (by omega))
    have m0 : w.heap.size < w3.heap.size := by omega
    have m1 : w.heap.size + 1 < w3.heap.size := by omega
    have G3 := Lib.hid g3
    have HQ := Lib.hid hq
    have HN3 := Lib.hid hn3
    have HF0 := Lib.hid f0
    have HF1 := Lib.hid f1
    have HB3 := Lib.hid hb3
    have x0 := cell_blk (i := 0) f0; have x1 := cell_blk (i := 1) f0; have xf0 := free_blk (i := 0) f0; have xf1 := free_blk (i := 1) f0; simp at x0 x1
    have y0 := cell_blk (i := 0) f1; have y1 := cell_blk (i := 1) f1; have y2 := cell_blk (i := 2) f1; have yf0 := free_blk (i := 0) f1; have yf1 := free_blk (i := 1) f1; have yf2 := free_blk (i := 2) f1; simp at y0 y1 y2
    clear g3 hq hn3 f0 f1 hb3
    by_cases hz : RR.1 = 0
    · have hr := HR.out
      rw [if_pos hz] at hr
      have HR := Lib.hid hr
      obtain ⟨na, nb⟩ := HN3.out hz
      have NA := Lib.hid na
      have NB := Lib.hid nb
      have hz' : ((RR.1 : Nat) : Int) = 0 := by omega
      clear hz hr na nb
      go_wp2
      obtain ⟨W, hW, g0, g1, gs, gb, gn⟩ := five_set w3 w.heap.size _ _ _ _ _ (.slice a n c') (.slice a' n' c'') (.int .i64 0) (.int .i64 0) (.int .i64 0) _ _ HF0.out HF1.out
      rw [← hW]
      have G0 := Lib.hid g0
      have GB := Lib.hid gb
      have GN := Lib.hid gn
      have k0 : w.heap.size < W.heap.size := by omega
      have k1 : w.heap.size + 1 < W.heap.size := by omega
      have u0 := cell_blk (i := 0) g0; have u1 := cell_blk (i := 1) g0; have uf0 := free_blk (i := 0) g0; have uf1 := free_blk (i := 1) g0; simp at u0 u1
      have v0 := cell_blk (i := 0) g1; have v1 := cell_blk (i := 1) g1; have v2 := cell_blk (i := 2) g1; have vf0 := free_blk (i := 0) g1; have vf1 := free_blk (i := 1) g1; have vf2 := free_blk (i := 2) g1; simp at v0 v1 v2
      clear g0 g1 hW gn
      refine bodyPost_ret (v := .tuple #[.agg #[.slice a n c', .slice a' n' c''], .agg #[.int .i64 0, .int .i64 0, .int .i64 0]]) (by simp [results, Tryz.results6, go_sem, u0, u1, v0, v1, v2, k0, k1]) rfl ?_
      have hbl := (HB3.out.trans GB.out).alloc (by omega) (.cells #[.slice a n c', .slice a' n' c''] 23)
      refine ⟨a, n, c', a', n', c'', by rw [HR.out]; rfl, ?_, ?_, hbl⟩
      · rw [HR.out]
        exact ownsRow_later (ownsRow_base (GN.out _ _ _ NA.out (by omega)) (by omega)) ((Below.refl _ _).alloc (Nat.le_refl _) _)
      · rw [HR.out]
        exact ownsRow_later (ownsRow_base (GN.out _ _ _ NB.out (by omega)) (by omega)) ((Below.refl _ _).alloc (Nat.le_refl _) _)
    · have hr := HR.out
      rw [if_neg hz] at hr
      have hqn := G3.out.rd.lt
      have hlen : q = ts.length - RR.2.2.2.length := by
        have h1 : (E.kts.drop q).length = RR.2.2.2.length := by rw [HQ.out]
        rw [List.length_drop, HE.out.2.1, List.length_map] at h1
        have h2 := HE.out.1
        omega
      rw [← hlen] at hr
      have HR := Lib.hid hr
      have q1 : ((RR.1 : Int) != 0) = true := by simpa using hz
      have hnx := dnext_any E q _ (G3.out.rd.below ((Below.refl w3.heap.size w3).alloc (Nat.le_refl _) (.cells #[.slice a n c', .slice a' n' c''] 23)))
      rw [HE.out.2.2] at hnx
      have HNX := Lib.hid hnx
      clear hz hr hnx hlen
      generalize tk ts q = tt at *
      obtain ⟨kd, tx, sl, sc⟩ := tt
      obtain ⟨-, -, hf2⟩ := dtokf kd tx sl sc
      go_wp2_with fail
      rw [← hER]
      refine HNX.out.mono ?_
      rintro e w5 ⟨rfl, b5⟩
      have hs5 := b5.size
      simp only [World.size_alloc] at hs5
      have e0 := (b5.block w.heap.size (by rw [World.size_alloc]; omega)).trans ((Below.heap_alloc w3 (.cells #[.slice a n c', .slice a' n' c''] 23) _ m0).trans HF0.out)
      have e1 := (b5.block (w.heap.size + 1) (by rw [World.size_alloc]; omega)).trans ((Below.heap_alloc w3 (.cells #[.slice a n c', .slice a' n' c''] 23) _ m1).trans HF1.out)
      have hb5 : Below w.heap.size w w5 := (HB3.out.alloc (by omega) _).trans (b5.mono (by rw [World.size_alloc]; omega))
      have E0 := Lib.hid e0
      have E1 := Lib.hid e1
      have HB5 := Lib.hid hb5
      have n0 : w.heap.size < w5.heap.size := by omega
      have n1 : w.heap.size + 1 < w5.heap.size := by omega
      have i0 := cell_blk (i := 0) e0; have i1 := cell_blk (i := 1) e0; have if0 := free_blk (i := 0) e0; have if1 := free_blk (i := 1) e0; simp at i0 i1
      have j0 := cell_blk (i := 0) e1; have j1 := cell_blk (i := 1) e1; have j2 := cell_blk (i := 2) e1; have jf0 := free_blk (i := 0) e1; have jf1 := free_blk (i := 1) e1; have jf2 := free_blk (i := 2) e1; simp at j0 j1 j2
      clear e0 e1 b5 hb5
      go_wp2
      obtain ⟨W, hW, g0, g1, gs, gb, -⟩ := five_set w5 w.heap.size _ _ _ _ _ (.slice none 0 0) (.slice none 0 0) (.int .i64 RR.1) (.int .i64 sl) (.int .i64 sc) _ _ E0.out E1.out
      rw [← hW]
      have GB := Lib.hid gb
      have k0 : w.heap.size < W.heap.size := by omega
      have k1 : w.heap.size + 1 < W.heap.size := by omega
      have u0 := cell_blk (i := 0) g0; have u1 := cell_blk (i := 1) g0; have uf0 := free_blk (i := 0) g0; have uf1 := free_blk (i := 1) g0; simp at u0 u1
      have v0 := cell_blk (i := 0) g1; have v1 := cell_blk (i := 1) g1; have v2 := cell_blk (i := 2) g1; have vf0 := free_blk (i := 0) g1; have vf1 := free_blk (i := 1) g1; have vf2 := free_blk (i := 2) g1; simp at v0 v1 v2
      clear g0 g1 hW
      refine bodyPost_ret (v := .tuple #[.agg #[.slice none 0 0, .slice none 0 0], .agg #[.int .i64 RR.1, .int .i64 sl, .int .i64 sc]]) (by simp [results, Tryz.results6, go_sem, u0, u1, v0, v1, v2, k0, k1]) rfl ?_
      exact ⟨none, 0, 0, none, 0, 0, by rw [HR.out]; rfl, by rw [HR.out]; exact World.ownsRow_nil _ _ _ _, by rw [HR.out]; exact World.ownsRow_nil _ _ _ _, HB5.out.trans GB.out⟩
  · have hr := HR.out
    rw [if_neg he] at hr
    have HR := Lib.hid hr
    have q1 : ((er : Int) != 0) = true := by simp; omega
    have x0 := cell_blk (i := 0) f0; have x1 := cell_blk (i := 1) f0; have xf0 := free_blk (i := 0) f0; have xf1 := free_blk (i := 1) f0; simp at x0 x1
    have y0 := cell_blk (i := 0) f1; have y1 := cell_blk (i := 1) f1; have y2 := cell_blk (i := 2) f1; have yf0 := free_blk (i := 0) f1; have yf1 := free_blk (i := 1) f1; have yf2 := free_blk (i := 2) f1; simp at y0 y1 y2
    clear hr he f0 f1
    go_wp2_with fail
    go_region
    go_wp2
    obtain ⟨W, hW, g0, g1, gs, gb, -⟩ := five_set w1 w.heap.size _ _ _ _ _ (.slice none 0 0) (.slice none 0 0) (.int .i64 er) (.int .i64 l) (.int .i64 cl) _ _ HF0.out HF1.out
    rw [← hW]
    have G0 := Lib.hid g0
    have GB := Lib.hid gb
    have k0 : w.heap.size < W.heap.size := by omega
    have k1 : w.heap.size + 1 < W.heap.size := by omega
    have u0 := cell_blk (i := 0) g0; have u1 := cell_blk (i := 1) g0; have uf0 := free_blk (i := 0) g0; have uf1 := free_blk (i := 1) g0; simp at u0 u1
    have v0 := cell_blk (i := 0) g1; have v1 := cell_blk (i := 1) g1; have v2 := cell_blk (i := 2) g1; have vf0 := free_blk (i := 0) g1; have vf1 := free_blk (i := 1) g1; have vf2 := free_blk (i := 2) g1; simp at v0 v1 v2
    clear g0 g1 hW
    refine bodyPost_ret (v := .tuple #[.agg #[.slice none 0 0, .slice none 0 0], .agg #[.int .i64 er, .int .i64 l, .int .i64 cl]]) (by simp [results, Tryz.results6, go_sem, u0, u1, v0, v1, v2, k0, k1]) rfl ?_
    exact ⟨none, 0, 0, none, 0, 0, by rw [HR.out], by rw [HR.out]; exact World.ownsRow_nil _ _ _ _, by rw [HR.out]; exact World.ownsRow_nil _ _ _ _, ((B1.out.trans (GB.out)).alloc (by omega) _).drew⟩
end Go.Proofs.YtbkjminjkjnkpaaGreatDoor
