/- joustref01: number, great, mark, remark, Where, Word: what they answer. -/
import Derived.Test.YtaffgdgdojdoiaaGreatDoorRefMath
import Derived.Test.YtaffgdgdojdoiaaGreatDoorRefWord
import Derived.Test.YtaffgdgdojdoiaaGreatDoorMem
namespace Go.Proofs.YtaffgdgdojdoiaaGreatDoor
open Go.RowKit Go.Lib

theorem byteAt_val (s : ByteArray) (i : Nat) (h : i < s.size) : (((s[i]'h).toNat : Nat) : Int) = (byteAt s i : Int) := by rw [byteAt_get s i h]

set_option maxHeartbeats 2000000 in
set_option maxRecDepth 100000 in
theorem rWhere_any (s : ByteArray) (at_ : Int) (w : World) (hs : s.size ≤ 4611686018427387000) (hT : Tabs w) :
    Calls Tryz.prog 82 #[.string s, .int .i64 at_] w fun e w' => e = .returned (.agg #[.int .i64 (whereOf s at_).1, .int .i64 (whereOf s at_).2]) ∧ Below w.heap.size w w' := by
  go_enter Tryz.func82, Tryz.ntmps82
  go_wp2
  go_loopw [6] (fun vp wr => ∃ (pos fuel : Nat) (here : Int × Int), vp = .int .i64 pos ∧ wr.heap[w.heap.size]? = some (.cells #[.int .i64 0, .int .i64 0] 26 (0, 0)) ∧
      wr.heap[w.heap.size + 1]? = some (.cells #[.int .i64 here.1, .int .i64 here.2] 26 (0, 0)) ∧ Below w.heap.size w wr ∧
      whereGo s fuel pos here at_ = whereOf s at_ ∧ s.size ≤ pos + fuel ∧ pos ≤ s.size ∧ (0 ≤ here.1 ∧ 0 ≤ here.2 ∧ here.1 ≤ pos + 1 ∧ here.2 ≤ pos + 1)) (fun vp _ => s.size - (RowKit.intOf vp).toNat)
  case atStart =>
    refine ⟨0, s.size, (1, 1), rfl, ?_, ?_, ((Below.refl _ w).alloc (Nat.le_refl _) _).alloc (by simp) _, rfl, by omega, by omega, by simp⟩
    · rw [Below.heap_alloc _ _ _ (by simp)]; exact heap_alloc_new w _
    · have := heap_alloc_new (w.alloc (.cells #[.int .i64 0, .int .i64 0] 26)) (.cells #[.int .i64 1, .int .i64 1] 26)
      simpa using this
  case round =>
    obtain ⟨pos, fuel, here, rfl, hR, hH, hbw, hgo, hfu, hpos, hh⟩ := hrel
    have c0 := cell_blk (i := 0) hH
    have c1 := cell_blk (i := 1) hH
    have f0 := free_blk (i := 0) hH
    have f1 := free_blk (i := 1) hH
    have e0 := cell_blk (i := 0) hR
    have e1 := cell_blk (i := 1) hR
    have d0 := free_blk (i := 0) hR
    have d1 := free_blk (i := 1) hR
    simp at c0 c1 e0 e1
    by_cases hp : pos < s.size
    · have hwd := width_pos s pos hp
      have hwf := decode_fits s pos hp
      have hd1 := decode_le s pos
      have hdec := decode_at_any s pos hp wr (hT.below hbw)
      obtain ⟨f, rfl⟩ : ∃ f, fuel = f + 1 := ⟨fuel - 1, by omega⟩
      have hg1 := whereGo_here s (f + 1) pos here at_
      have hg2 := whereGo_more s f pos here at_ hp
      have hnp := nextP_bd here (Utf8.decode s pos).1 pos hh
      have hne : nextP here (Utf8.decode s pos).1 = if ((Utf8.decode s pos).1 : Int) = 10 then (here.1 + 1, 1) else (here.1, here.2 + 1) := rfl
      rw [hgo] at hg1 hg2
      generalize nextP here (Utf8.decode s pos).1 = here' at *
      generalize (Utf8.decode s pos).1 = r at *
      generalize (Utf8.decode s pos).2 = n at *
      have HD := Lib.hid hdec
      have H1 := Lib.hid hg1
      have H2 := Lib.hid hg2
      have HE := Lib.hid hne
      clear hdec hg1 hg2 hgo hne
      by_cases hc : at_ < (pos : Int) + n
      · have HR := Lib.hid (H1.out hc)
        go_wp2_with fail
        refine HD.out.mono ?_
        rintro e w1 ⟨rfl, b1⟩
        have hH1 := (b1.block _ (heap_lt hH)).trans hH
        have hR1 := (b1.block _ (heap_lt hR)).trans hR
        have c0' := cell_blk (i := 0) hH1
        have c1' := cell_blk (i := 1) hH1
        have e0' := cell_blk (i := 0) hR1
        have e1' := cell_blk (i := 1) hR1
        have d0' := free_blk (i := 0) hR1
        have d1' := free_blk (i := 1) hR1
        simp at c0' c1' e0' e1'
        have hbw1 := hbw.trans (b1.mono hbw.size)
        go_wp2
        refine bodyPost_ret (v := .agg #[.int .i64 here.1, .int .i64 here.2]) (by simp [results, Tryz.results82, go_sem, c0', c1', e0', e1']) rfl ?_
        exact ⟨by rw [HR.out], (hbw1.setCell (p := ⟨w.heap.size, 0, none⟩) (Nat.le_refl _) _).setCell (p := ⟨w.heap.size, 1, none⟩) (Nat.le_refl _) _⟩
      · have HR := Lib.hid (H2.out hc)
        by_cases h10 : (r : Int) = 10
        · have HX : Hid (here' = (here.1 + 1, 1)) := by rw [HE.out, if_pos h10]; exact rfl
          have q : ((r : Int) == 10) = true := by simp; omega
          clear h10
          go_wp2_with fail
          refine HD.out.mono ?_
          rintro e w1 ⟨rfl, b1⟩
          have hH1 := (b1.block _ (heap_lt hH)).trans hH
          have hR1 := (b1.block _ (heap_lt hR)).trans hR
          have c0' := cell_blk (i := 0) hH1
          have c1' := cell_blk (i := 1) hH1
          have f0' := free_blk (i := 0) hH1
          have f1' := free_blk (i := 1) hH1
          simp at c0' c1'
          have hbw1 := hbw.trans (b1.mono hbw.size)
          go_wp2
          go_roundw
          case rel =>
            refine ⟨pos + n, f, here', by go_num, ?_, ?_, ?_, HR.out.symm, by omega, by omega, by omega⟩
            · rw [heap_set_far (by simp), heap_set_far (by simp), heap_set_far (by simp)]; exact hR1
            · rw [heap_set (heap_set (heap_set hH1 _) _) _, HX.out]; rfl
            · exact ((hbw1.setCell (p := ⟨w.heap.size + 1, 1, none⟩) (by simp) _).setCell (p := ⟨w.heap.size + 1, 0, none⟩) (by simp) _).setCell (p := ⟨w.heap.size + 1, 1, none⟩) (by simp) _
          case measure => simp [RowKit.intOf]; omega
        · have HX : Hid (here' = (here.1, here.2 + 1)) := by rw [HE.out, if_neg h10]; exact rfl
          have q : ((r : Int) == 10) = false := by simp; omega
          clear h10
          go_wp2_with fail
          refine HD.out.mono ?_
          rintro e w1 ⟨rfl, b1⟩
          have hH1 := (b1.block _ (heap_lt hH)).trans hH
          have hR1 := (b1.block _ (heap_lt hR)).trans hR
          have c0' := cell_blk (i := 0) hH1
          have c1' := cell_blk (i := 1) hH1
          have f0' := free_blk (i := 0) hH1
          have f1' := free_blk (i := 1) hH1
          simp at c0' c1'
          have hbw1 := hbw.trans (b1.mono hbw.size)
          go_wp2
          go_roundw
          case rel =>
            refine ⟨pos + n, f, here', by go_num, ?_, ?_, ?_, HR.out.symm, by omega, by omega, by omega⟩
            · rw [heap_set_far (by simp)]; exact hR1
            · rw [heap_set hH1 _, HX.out]; rfl
            · exact hbw1.setCell (p := ⟨w.heap.size + 1, 1, none⟩) (by simp) _
          case measure => simp [RowKit.intOf]; omega
    · have HR : Hid (here = whereOf s at_) := by rw [← hgo, whereGo_end _ _ _ _ _ hp]; exact rfl
      clear hgo
      go_wp2
      refine bodyPost_ret (v := .agg #[.int .i64 here.1, .int .i64 here.2]) (by simp [results, Tryz.results82, go_sem, c0, c1, e0, e1]) rfl ?_
      exact ⟨by rw [HR.out], (hbw.setCell (p := ⟨w.heap.size, 0, none⟩) (Nat.le_refl _) _).setCell (p := ⟨w.heap.size, 1, none⟩) (Nat.le_refl _) _⟩
end Go.Proofs.YtaffgdgdojdoiaaGreatDoor
