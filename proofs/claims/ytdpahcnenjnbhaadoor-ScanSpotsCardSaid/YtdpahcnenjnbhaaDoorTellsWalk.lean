/- joustlaw01.ScanTells: it answers true, for every text and place. -/
import Derived.Test.YtdpahcnenjnbhaaDoorRefTokens
import Derived.Test.YtdpahcnenjnbhaaDoorEqualC
namespace Go.Proofs.YtdpahcnenjnbhaaDoor
open Go.RowKit Go.Lib

theorem rtok_at (s : ByteArray) (w : World) (hs : s.size ≤ maxLen) (hT : Tabs w) : Calls Tryd.prog 8 #[.string s] w (ToksAt w (scanOf s).1 (scanOf s).2.1 (scanOf s).2.2) := by
  rw [scanOf_refOf s]
  exact (rtokens_any s w hs hT).mono fun _ _ h => h.at_
theorem tok_at (s : ByteArray) (w : World) (hs : s.size ≤ maxLen) (hT : Tabs w) : Calls Tryd.prog 7 #[.string s] w (ToksAt w (scanOf s).1 (scanOf s).2.1 (scanOf s).2.2) :=
  (tokens_any s w hs hT).mono fun _ _ h => h.at_

set_option maxHeartbeats 4000000 in
set_option maxRecDepth 100000 in
theorem tells_any (s : ByteArray) (at_ : Int) (w : World) (hs : s.size ≤ maxLen) (hT : Tabs w) :
    Calls Tryd.prog 3 #[.string s, .int .i64 at_] w fun e w' => e = .returned (.bool true) ∧ Below w.heap.size w w' := by
  have hL := fun W hW => lives_any W hW
  have h1 := fun W hW => tok_at s W hs hW
  have h2 := fun W hW => rtok_at s W hs hW
  have h3 := fun W hW => word_any s W hs hW
  have h4 := fun W hW => rWord_any s W hs hW
  have h5 : s.size ≤ 3000 → ∀ W, _ := fun h W => where_any s at_ W (by omega)
  have h6 : s.size ≤ 3000 → ∀ W, Tabs W → _ := fun h W hW => rWhere_any s at_ W (by omega) hW
  generalize scanOf s = r at *
  generalize wordB s = wb at *
  generalize whereOf s at_ = sp at *
  obtain ⟨ts, er, l, c⟩ := r
  obtain ⟨x, y⟩ := sp
  simp only [] at h1 h2 h5 h6
  have HL := Lib.hid hL
  have H1 := Lib.hid h1
  have H2 := Lib.hid h2
  have H3 := Lib.hid h3
  have H4 := Lib.hid h4
  have H5 := Lib.hid h5
  have H6 := Lib.hid h6
  clear hL h1 h2 h3 h4 h5 h6
  unfold maxLen at hs
  by_cases c1 : 3000 < s.size
  · by_cases c2 : s.size ≤ 65536
    · go_enter Tryd.func3, Tryd.ntmps3
      go_wp2_with fail
      refine (HL.out _ hT).mono ?_
      rintro e w1 ⟨rfl, b1⟩
      go_wp2
      go_ret
      exact ⟨rfl, b1⟩
    · go_enter Tryd.func3, Tryd.ntmps3
      go_wp2_with fail
      refine (H1.out _ hT).mono ?_
      rintro e w1 ⟨v1, rfl, a1, b1⟩
      have T1 := (hT.below b1).alloc (.cells #[.int .i64 er, .int .i64 l, .int .i64 c] 28)
      go_wp2_with fail
      refine (H2.out _ T1).mono ?_
      rintro e w2 ⟨v2, rfl, a2, b2⟩
      have T2 := (T1.below b2).alloc (.cells #[.int .i64 er, .int .i64 l, .int .i64 c] 28)
      have B1 := later_alloc b1 (.cells #[.int .i64 er, .int .i64 l, .int .i64 c] 28)
      have B2 := later_alloc b2 (.cells #[.int .i64 er, .int .i64 l, .int .i64 c] 28)
      have A1 := (a1.later (later_alloc (Below.refl _ _) (.cells #[.int .i64 er, .int .i64 l, .int .i64 c] 28))).later B2
      have A2 := a2.later (later_alloc (Below.refl _ _) (.cells #[.int .i64 er, .int .i64 l, .int .i64 c] 28))
      have F1 := (B2.block w1.heap.size (by simp)).trans (heap_alloc_new w1 (.cells #[.int .i64 er, .int .i64 l, .int .i64 c] 28))
      have F2 := heap_alloc_new w2 (.cells #[.int .i64 er, .int .i64 l, .int .i64 c] 28)
      have K2 := later_trans B1 B2
      clear a1 a2 b1 b2 B1 B2
      go_wp2_with fail
      generalize w2.alloc (.cells #[.int .i64 er, .int .i64 l, .int .i64 c] 28) = W at *
      refine (toks_yes _ _ _ _ _ A1 A2 rfl (fun k t u ht hu => by rw [ht] at hu; cases hu; exact ⟨rfl, rfl⟩)).mono ?_
      rintro e w3 ⟨rfl, b3⟩
      go_wp2_with fail
      refine (spots_yes _ _ _ _ _ (A1.later b3) (A2.later b3) rfl (fun k t u ht hu => by rw [ht] at hu; cases hu; rfl)).mono ?_
      rintro e w4 ⟨rfl, b4⟩
      have b34 := later_trans b3 b4
      have T4 := T2.below b34
      have K4 := later_trans K2 b34
      have G10 := cell_blk (i := 0) ((b34.block _ (heap_lt F1)).trans F1)
      have G11 := cell_blk (i := 1) ((b34.block _ (heap_lt F1)).trans F1)
      have G12 := cell_blk (i := 2) ((b34.block _ (heap_lt F1)).trans F1)
      have G20 := cell_blk (i := 0) ((b34.block _ (heap_lt F2)).trans F2)
      have G21 := cell_blk (i := 1) ((b34.block _ (heap_lt F2)).trans F2)
      have G22 := cell_blk (i := 2) ((b34.block _ (heap_lt F2)).trans F2)
      simp at G10 G11 G12 G20 G21 G22
      clear F1 F2 A1 A2 b3 b4 b34 K2 T2
      go_wp2_with fail
      refine (H3.out _ T4).mono ?_
      rintro e w5 ⟨rfl, b5⟩
      have T5 := T4.below b5
      go_wp2_with fail
      refine (H4.out _ T5).mono ?_
      rintro e w6 ⟨rfl, b6⟩
      have T6 := T5.below b6
      have K6 := later_trans (later_trans K4 b5) b6
      go_wp2_with fail
      refine (HL.out _ T6).mono ?_
      rintro e w7 ⟨rfl, b7⟩
      go_wp2
      go_ret
      exact ⟨rfl, later_trans K6 b7⟩
  · have W5 := Lib.hid (H5.out (by omega))
    have W6 := Lib.hid (H6.out (by omega))
    go_enter Tryd.func3, Tryd.ntmps3
    go_wp2_with fail
    refine (H1.out _ hT).mono ?_
    rintro e w1 ⟨v1, rfl, a1, b1⟩
    have T1 := (hT.below b1).alloc (.cells #[.int .i64 er, .int .i64 l, .int .i64 c] 28)
    go_wp2_with fail
    refine (H2.out _ T1).mono ?_
    rintro e w2 ⟨v2, rfl, a2, b2⟩
    have T2 := (T1.below b2).alloc (.cells #[.int .i64 er, .int .i64 l, .int .i64 c] 28)
    have B1 := later_alloc b1 (.cells #[.int .i64 er, .int .i64 l, .int .i64 c] 28)
    have B2 := later_alloc b2 (.cells #[.int .i64 er, .int .i64 l, .int .i64 c] 28)
    have A1 := (a1.later (later_alloc (Below.refl _ _) (.cells #[.int .i64 er, .int .i64 l, .int .i64 c] 28))).later B2
    have A2 := a2.later (later_alloc (Below.refl _ _) (.cells #[.int .i64 er, .int .i64 l, .int .i64 c] 28))
    have F1 := (B2.block w1.heap.size (by simp)).trans (heap_alloc_new w1 (.cells #[.int .i64 er, .int .i64 l, .int .i64 c] 28))
    have F2 := heap_alloc_new w2 (.cells #[.int .i64 er, .int .i64 l, .int .i64 c] 28)
    have K2 := later_trans B1 B2
    clear a1 a2 b1 b2 B1 B2
    go_wp2_with fail
    generalize w2.alloc (.cells #[.int .i64 er, .int .i64 l, .int .i64 c] 28) = W at *
    refine (toks_yes _ _ _ _ _ A1 A2 rfl (fun k t u ht hu => by rw [ht] at hu; cases hu; exact ⟨rfl, rfl⟩)).mono ?_
    rintro e w3 ⟨rfl, b3⟩
    go_wp2_with fail
    refine (spots_yes _ _ _ _ _ (A1.later b3) (A2.later b3) rfl (fun k t u ht hu => by rw [ht] at hu; cases hu; rfl)).mono ?_
    rintro e w4 ⟨rfl, b4⟩
    have b34 := later_trans b3 b4
    have T4 := T2.below b34
    have K4 := later_trans K2 b34
    have G10 := cell_blk (i := 0) ((b34.block _ (heap_lt F1)).trans F1)
    have G11 := cell_blk (i := 1) ((b34.block _ (heap_lt F1)).trans F1)
    have G12 := cell_blk (i := 2) ((b34.block _ (heap_lt F1)).trans F1)
    have G20 := cell_blk (i := 0) ((b34.block _ (heap_lt F2)).trans F2)
    have G21 := cell_blk (i := 1) ((b34.block _ (heap_lt F2)).trans F2)
    have G22 := cell_blk (i := 2) ((b34.block _ (heap_lt F2)).trans F2)
    simp at G10 G11 G12 G20 G21 G22
    clear F1 F2 A1 A2 b3 b4 b34 K2 T2
    go_wp2_with fail
    refine (H3.out _ T4).mono ?_
    rintro e w5 ⟨rfl, b5⟩
    have T5 := T4.below b5
    go_wp2_with fail
    refine (H4.out _ T5).mono ?_
    rintro e w6 ⟨rfl, b6⟩
    have T6 := T5.below b6
    have K6 := later_trans (later_trans K4 b5) b6
    go_wp2_with fail
    refine (W5.out _).mono ?_
    rintro e w7 ⟨rfl, b7⟩
    have T7 := T6.below b7
    go_wp2_with fail
    refine (W6.out _ T7).mono ?_
    rintro e w8 ⟨rfl, b8⟩
    have T8 := T7.below b8
    have K8 := later_trans (later_trans K6 b7) b8
    go_wp2_with fail
    refine (HL.out _ T8).mono ?_
    rintro e w9 ⟨rfl, b9⟩
    go_wp2
    go_ret
    exact ⟨rfl, later_trans K8 b9⟩
end Go.Proofs.YtdpahcnenjnbhaaDoor
