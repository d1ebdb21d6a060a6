import Derived.Test.YtbkjminjkjnkpaaGreatDoorQDkDeck
/- Layer 5 (decks): two decks, read. -/
namespace Go.Proofs.YtbkjminjkjnkpaaGreatDoor
open Go.RowKit Go.Lib

theorem DGoes.setNew {w w' : World} {E : DE} {q : Nat} (g : DGoes w E q w') (h0 : DEnv w E) (hR : E.R < w.heap.size) {a : Addr} (ha : w.heap.size ≤ a.block) (u : Value) : DGoes w E q (w'.setCell a u) := by
  have k : Kept E.R w (w'.setCell a u) := g.kept.setCell (.inr ha) u
  refine ⟨⟨h0.kept k, ?_, g.rd.lt⟩, k⟩
  rw [heap_set_far (by omega)]
  exact g.rd.rd
theorem DGoes.drew {w w' : World} {E : DE} {q : Nat} (g : DGoes w E q w') : DGoes w E q w'.drew := g.below (Below.refl _ _).drew
theorem NatsAt.kept {w w' : World} {B R : Nat} {v : Value} {out : List Nat} (h : NatsAt w B v out) (k : Kept R w w') (hR : R < B) : NatsAt w' B v out :=
  ownsRow_same h fun g hg => by
    have := h.lt g hg
    exact k.block g this.2 (by omega)

/-- What decks answers. -/
def DecksEnds (E : DE) (w : World) (R : Nat × List Nat × List Nat × List KT) (e : Ending) (w' : World) : Prop :=
  ∃ a n c a' n' c' q, e = .returned (.tuple #[.agg #[.slice a n c, .slice a' n' c'], .int .i64 R.1]) ∧ DGoes w E q w' ∧ E.kts.drop q = R.2.2.2 ∧ (R.1 = 0 → NatsAt w' w.heap.size (.slice a n c) R.2.1 ∧ NatsAt w' w.heap.size (.slice a' n' c') R.2.2.1)

set_option maxHeartbeats 4000000 in
set_option maxRecDepth 100000 in
theorem ddecks_any (E : DE) (p : Nat) (w : World) (h : DRd w E p) :
    Calls Tryz.prog 18 #[.pointer (some ⟨E.R, 0, none⟩)] w (DecksEnds E w (twoDecks E.ns (E.kts.drop p))) := by
  have HH := Lib.hid h
  have hR := h.blk
  have h0 := Lib.hid h.env
  have hR1 : E.R ≠ w.heap.size := by omega
  have hB0 : Below w.heap.size w (w.alloc (.cells #[.slice none 0 0, .slice none 0 0] 23)) := (Below.refl _ _).alloc (Nat.le_refl _) _
  have h1 := Lib.hid (h.below hB0)
  have HB0 := Lib.hid hB0
  clear h hB0
  obtain ⟨RR, hRR⟩ : ∃ RR, RR = twoDecks E.ns (E.kts.drop p) := ⟨_, rfl⟩
  rw [← hRR]
  unfold twoDecks at hRR
  obtain ⟨R1, hR1e⟩ : ∃ R1, oneDeck E.ns (E.kts.drop p) = R1 := ⟨_, rfl⟩
  rw [hR1e] at hRR
  have HR1 := Lib.hid hR1e
  have HRR := Lib.hid hRR
  clear hR1e hRR
  go_enter Tryz.func18, Tryz.ntmps18
  go_wp2_with fail
  refine wp_loop_rounds 3 ?_
  rw [rounds_succ]
  go_wp2_with fail
  refine (ddeck_any E p _ h1.out).mono ?_
  rw [HR1.out]
  rintro e w2 ⟨a, n, c, q, rfl, g2, hq, hn⟩
  have f0 : w2.heap[w.heap.size]? = some (.cells #[.slice none 0 0, .slice none 0 0] 23 (0, 0)) := g2.kept.heap (by omega) (heap_alloc_new w _)
  have G2 := Lib.hid (g2.of_below HB0.out)
  have HQ := Lib.hid hq
  have HNs := Lib.hid hn
  have hF0 := Lib.hid f0
  have x0 := cell_blk (i := 0) f0; have x1 := cell_blk (i := 1) f0; have xf0 := free_blk (i := 0) f0; have xf1 := free_blk (i := 1) f0; simp at x0 x1
  have hs2 := G2.out.kept.size
  have hlt2 := heap_lt hF0.out
  clear g2 hq hn f0
  by_cases hz : R1.1 = 0
  · have hrr := HRR.out
    rw [if_pos hz] at hrr
    have HRR := Lib.hid hrr
    have hz' : ((R1.1 : Nat) : Int) = 0 := by omega
    have HNs1 := Lib.hid (HNs.out hz)
    clear hz hrr
    obtain ⟨w3, hw3⟩ : ∃ w3, w3 = w2.setCell ⟨w.heap.size, 0, none⟩ (.slice a n c) := ⟨_, rfl⟩
    have hg3 : DGoes w E q w3 := by rw [hw3]; exact G2.out.setNew h0.out hR (Nat.le_refl _) _
    have hf3 : w3.heap[w.heap.size]? = some (.cells #[.slice a n c, .slice none 0 0] 23 (0, 0)) := by rw [hw3]; exact heap_set hF0.out _
    have hn3 : NatsAt w3 (w.heap.size + 1) (.slice a n c) R1.2.1 := by rw [hw3]; have := HNs1.out; rw [World.size_alloc] at this; exact ownsRow_set this (by simp) _
    have hsz3 := hg3.kept.size
    have hlt3 := heap_lt hf3
    have G3 := Lib.hid hg3
    have HF3 := Lib.hid hf3
    have HN3 := Lib.hid hn3
    have HW3 := Lib.hid hw3
    clear hg3 hf3 hn3 hw3
    obtain ⟨R2, hR2e⟩ : ∃ R2, oneDeck E.ns R1.2.2 = R2 := ⟨_, rfl⟩
    have hrr2 := HRR.out
    rw [hR2e] at hrr2
    have HRR := Lib.hid hrr2
    have HR2 : Hid (oneDeck E.ns (E.kts.drop q) = R2) := by rw [HQ.out]; exact hR2e
    clear hR2e hrr2
    go_wp2_with fail
    rw [rounds_succ]
    go_wp2_with fail
    rw [← HW3.out]
    refine (ddeck_any E q _ G3.out.rd).mono ?_
    rw [HR2.out]
    rintro e w4 ⟨a', n', c', q', rfl, g4, hq4, hn4⟩
    have f4 : w4.heap[w.heap.size]? = some (.cells #[.slice a n c, .slice none 0 0] 23 (0, 0)) := g4.kept.heap (by omega) HF3.out
    have hn34 : NatsAt w4 (w.heap.size + 1) (.slice a n c) R1.2.1 := HN3.out.kept g4.kept (by omega)
    have HN34 := Lib.hid hn34
    have G4 := Lib.hid (G3.out.trans g4)
    have HQ4 := Lib.hid hq4
    have HNs4 := Lib.hid hn4
    have HF4 := Lib.hid f4
    have y0 := cell_blk (i := 0) f4; have y1 := cell_blk (i := 1) f4; have yf0 := free_blk (i := 0) f4; have yf1 := free_blk (i := 1) f4; simp at y0 y1
    have hs4 := G4.out.kept.size
    have hlt4 := heap_lt HF4.out
    clear g4 hq4 hn4 f4 hn34
    by_cases hz2 : R2.1 = 0
    · have hrr := HRR.out
      rw [if_pos hz2] at hrr
      have hz2' : ((R2.1 : Nat) : Int) = 0 := by omega
      have HN4 := Lib.hid (HNs4.out hz2)
      obtain ⟨w5, hw5⟩ : ∃ w5, w5 = w4.setCell ⟨w.heap.size, 1, none⟩ (.slice a' n' c') := ⟨_, rfl⟩
      have hg5 : DGoes w E q' w5 := by rw [hw5]; exact G4.out.setNew h0.out hR (Nat.le_refl _) _
      have hf5 : w5.heap[w.heap.size]? = some (.cells #[.slice a n c, .slice a' n' c'] 23 (0, 0)) := by rw [hw5]; exact heap_set HF4.out _
      have hn5 : NatsAt w5 (w.heap.size + 1) (.slice a n c) R1.2.1 := by rw [hw5]; exact ownsRow_set HN34.out (by simp) _
      have hn6 : NatsAt w5 (w.heap.size + 1) (.slice a' n' c') R2.2.1 := by rw [hw5]; exact ownsRow_set (ownsRow_base HN4.out hlt3) (by simp) _
      have hd := kts_drop hg5.rd.lt
      rw [HQ4.out] at hd
      rw [hd] at hrr
      have HRR := Lib.hid hrr
      have hsz5 := hg5.kept.size
      have hlt5 := heap_lt hf5
      have G5 := Lib.hid hg5
      have HF5 := Lib.hid hf5
      have HN5 := Lib.hid hn5
      have HN6 := Lib.hid hn6
      have HD := Lib.hid hd
      have HW5 := Lib.hid hw5
      have hnx := Lib.hid (dnext_any E q' w5 hg5.rd)
      clear hg5 hf5 hn5 hn6 hw5 hz2 hrr hd
      go_wp2_with fail
      rw [rounds_succ]
      go_wp2_with fail
      rw [← HW5.out]
      refine hnx.out.mono ?_
      rintro e w6 ⟨rfl, b6⟩
      have hf6 := (b6.block _ hlt5).trans HF5.out
      have HF6 := Lib.hid hf6
      have G6 := Lib.hid (G5.out.below b6)
      have HN7 := Lib.hid (ownsRow_later HN5.out b6)
      have HN8 := Lib.hid (ownsRow_later HN6.out b6)
      have hdf := dtokf (tk E.ts q').kind (tk E.ts q').text (tk E.ts q').spot.1 (tk E.ts q').spot.2
      obtain ⟨hf0, -, -⟩ := hdf
      have z0 := cell_blk (i := 0) hf6; have z1 := cell_blk (i := 1) hf6; have zf0 := free_blk (i := 0) hf6; have zf1 := free_blk (i := 1) hf6; simp at z0 z1
      have hlt6 := heap_lt HF6.out
      clear b6 hf6
      by_cases hk : (tk E.ts q').kind = 0
      · have hrr : RR = (0, R1.2.1, R2.2.1, R2.2.2) := by
          rw [HRR.out, HD.out]
          show (if (tk E.ts q').kind = 0 then _ else _) = _
          rw [if_pos hk]
        have HRR := Lib.hid hrr
        have q3 : (((tk E.ts q').kind : Int) != 0) = false := by simp [hk]
        clear hk hrr
        go_wp2
        have hw := heap_set (i := 1) (heap_set (i := 0) HF6.out (.slice a n c)) (.slice a' n' c')
        have v0 := cell_blk (i := 0) hw; have v1 := cell_blk (i := 1) hw; have vf0 := free_blk (i := 0) hw; have vf1 := free_blk (i := 1) hw; simp at v0 v1
        refine bodyPost_ret (v := .tuple #[.agg #[.slice a n c, .slice a' n' c'], .int .i64 0]) (by simp [results, Tryz.results18, go_sem, v0, v1]) rfl ?_
        refine ⟨a, n, c, a', n', c', q', by rw [HRR.out]; rfl, (G6.out.setNew h0.out hR (Nat.le_refl _) _).setNew h0.out hR (Nat.le_refl _) _, by rw [HRR.out]; exact HQ4.out, fun _ => ?_⟩
        rw [HRR.out]
        exact ⟨ownsRow_base (ownsRow_set (ownsRow_set HN7.out (by simp) _) (by simp) _) (by omega), ownsRow_base (ownsRow_set (ownsRow_set HN8.out (by simp) _) (by simp) _) (by omega)⟩
      · have hrr : RR = (5, [], [], R2.2.2) := by
          rw [HRR.out, HD.out]
          show (if (tk E.ts q').kind = 0 then _ else _) = _
          rw [if_neg hk]
        have HRR := Lib.hid hrr
        have q3 : (((tk E.ts q').kind : Int) != 0) = true := by simp; omega
        clear hk hrr
        go_wp2
        have hw := heap_set (i := 1) (heap_set (i := 0) HF6.out (.slice a n c)) (.slice a' n' c')
        have v0 := cell_blk (i := 0) hw; have v1 := cell_blk (i := 1) hw; have vf0 := free_blk (i := 0) hw; have vf1 := free_blk (i := 1) hw; simp at v0 v1
        refine bodyPost_ret (v := .tuple #[.agg #[.slice a n c, .slice a' n' c'], .int .i64 5]) (by simp [results, Tryz.results18, go_sem, v0, v1]) rfl ?_
        exact ⟨a, n, c, a', n', c', q', by rw [HRR.out]; rfl, (G6.out.setNew h0.out hR (Nat.le_refl _) _).setNew h0.out hR (Nat.le_refl _) _, by rw [HRR.out]; exact HQ4.out, fun h => by rw [HRR.out] at h; cases h⟩
    · have hrr := HRR.out
      rw [if_neg hz2] at hrr
      have HRR := Lib.hid hrr
      have q2 : ((R2.1 : Int) != 0) = true := by simpa using hz2
      have HZ := Lib.hid hz2
      clear hz2 hrr
      go_wp2
      have hw := heap_set (i := 1) (heap_set (i := 0) (heap_set (i := 1) HF4.out (.slice a' n' c')) (.slice a n c)) (.slice a' n' c')
      have z0 := cell_blk (i := 0) hw; have z1 := cell_blk (i := 1) hw; have zf0 := free_blk (i := 0) hw; have zf1 := free_blk (i := 1) hw; simp at z0 z1
      refine bodyPost_ret (v := .tuple #[.agg #[.slice a n c, .slice a' n' c'], .int .i64 R2.1]) (by simp [results, Tryz.results18, go_sem, z0, z1]) rfl ?_
      exact ⟨a, n, c, a', n', c', q', by rw [HRR.out], (((G4.out.setNew h0.out hR (Nat.le_refl _) _).setNew h0.out hR (Nat.le_refl _) _).setNew h0.out hR (Nat.le_refl _) _), by rw [HRR.out]; exact HQ4.out, fun h => by rw [HRR.out] at h; exact absurd h HZ.out⟩
  · have hrr := HRR.out
    rw [if_neg hz] at hrr
    have HRR := Lib.hid hrr
    have q2 : ((R1.1 : Int) != 0) = true := by simpa using hz
    have HZ := Lib.hid hz
    clear hz hrr
    go_wp2
    have hw := heap_set (i := 1) (heap_set (i := 0) (heap_set (i := 0) hF0.out (.slice a n c)) (.slice a n c)) (.slice none 0 0)
    have z0 := cell_blk (i := 0) hw; have z1 := cell_blk (i := 1) hw; have zf0 := free_blk (i := 0) hw; have zf1 := free_blk (i := 1) hw; simp at z0 z1
    refine bodyPost_ret (v := .tuple #[.agg #[.slice a n c, .slice none 0 0], .int .i64 R1.1]) (by simp [results, Tryz.results18, go_sem, z0, z1]) rfl ?_
    exact ⟨a, n, c, none, 0, 0, q, by rw [HRR.out], (((G2.out.setNew h0.out hR (Nat.le_refl _) _).setNew h0.out hR (Nat.le_refl _) _).setNew h0.out hR (Nat.le_refl _) _), by rw [HRR.out]; exact HQ.out, fun h => by rw [HRR.out] at h; exact absurd h HZ.out⟩
end Go.Proofs.YtbkjminjkjnkpaaGreatDoor
