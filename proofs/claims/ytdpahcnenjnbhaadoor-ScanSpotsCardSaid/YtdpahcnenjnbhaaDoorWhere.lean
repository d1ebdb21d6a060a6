/- scan.Where: what it answers, for every text and place. -/
import Derived.Test.YtdpahcnenjnbhaaDoorWhereMath
import Derived.Test.YtdpahcnenjnbhaaDoorMem
import Derived.RegionTactic
import Derived.ChangeAlike
import Derived.BigRegion
import Derived.Deep.RegionWith
namespace Go.Proofs.YtdpahcnenjnbhaaDoor
open Go.RowKit Go.Lib

/-- What scan.Where keeps in memory. -/
structure AtSpot (w wr : World) (B H I : Nat) (s : ByteArray) (pos : Nat) (here behind : Int × Int) : Prop where
  res : wr.heap[B]? = some (.cells #[.int .i64 0, .int .i64 0] 26 (0, 0))
  here : wr.heap[H]? = some (.cells #[.int .i64 here.1, .int .i64 here.2] 26 (0, 0))
  behind : wr.heap[H + 1]? = some (.cells #[.int .i64 behind.1, .int .i64 behind.2] 26 (0, 0))
  iter : wr.heap[I]? = some (.stringIter s pos)
  below : Below B w wr
  lt : B < H
  lt2 : H + 1 < I

section
variable {w wr wr' : World} {B H I : Nat} {s : ByteArray} {pos : Nat} {here behind : Int × Int}
theorem AtSpot.next (h : AtSpot w wr B H I s pos here behind) (pos' : Nat) : AtSpot w (wr.iterAt I s pos') B H I s pos' here behind := by
  have hl := h.lt
  have hl2 := h.lt2
  refine ⟨?_, ?_, ?_, Lib.iterAt_heap _ _ _ _ _ h.iter, Lib.below_iterAt h.below (by omega) s pos', hl, hl2⟩
  · rw [Lib.iterAt_other _ _ _ _ _ (by omega)]; exact h.res
  · rw [Lib.iterAt_other _ _ _ _ _ (by omega)]; exact h.here
  · rw [Lib.iterAt_other _ _ _ _ _ (by omega)]; exact h.behind
theorem AtSpot.later (h : AtSpot w wr B H I s pos here behind) (hb : Below wr.heap.size wr wr') : AtSpot w wr' B H I s pos here behind := by
  have hl := h.lt
  have hl2 := h.lt2
  have hz := heap_lt h.iter
  exact ⟨(hb.block _ (by omega)).trans h.res, (hb.block _ (by omega)).trans h.here, (hb.block _ (by omega)).trans h.behind, (hb.block _ (by omega)).trans h.iter, h.below.trans (hb.mono (by omega)), hl, hl2⟩
theorem AtSpot.drew (h : AtSpot w wr B H I s pos here behind) : AtSpot w wr.drew B H I s pos here behind := h.later (Below.refl _ _).drew
theorem AtSpot.setHere (h : AtSpot w wr B H I s pos here behind) (l c : Int) : AtSpot w ((wr.setCell ⟨H, 0, none⟩ (.int .i64 l)).setCell ⟨H, 1, none⟩ (.int .i64 c)) B H I s pos (l, c) behind := by
  have hl := h.lt
  have hl2 := h.lt2
  refine ⟨?_, heap_set (heap_set h.here _) _, ?_, ?_, (h.below.setCell (p := ⟨H, 0, none⟩) (by simp; omega) _).setCell (p := ⟨H, 1, none⟩) (by simp; omega) _, hl, hl2⟩
  · rw [heap_set_far (by simp; omega), heap_set_far (by simp; omega)]; exact h.res
  · rw [heap_set_far (by simp), heap_set_far (by simp)]; exact h.behind
  · rw [heap_set_far (by simp; omega), heap_set_far (by simp; omega)]; exact h.iter
theorem AtSpot.setBehind (h : AtSpot w wr B H I s pos here behind) (l c : Int) : AtSpot w ((wr.setCell ⟨H + 1, 0, none⟩ (.int .i64 l)).setCell ⟨H + 1, 1, none⟩ (.int .i64 c)) B H I s pos here (l, c) := by
  have hl := h.lt
  have hl2 := h.lt2
  refine ⟨?_, ?_, heap_set (heap_set h.behind _) _, ?_, (h.below.setCell (p := ⟨H + 1, 0, none⟩) (by simp; omega) _).setCell (p := ⟨H + 1, 1, none⟩) (by simp; omega) _, hl, hl2⟩
  · rw [heap_set_far (by simp; omega), heap_set_far (by simp; omega)]; exact h.res
  · rw [heap_set_far (by simp), heap_set_far (by simp)]; exact h.here
  · rw [heap_set_far (by simp; omega), heap_set_far (by simp; omega)]; exact h.iter
theorem AtSpot.cells (h : AtSpot w wr B H I s pos here behind) : wr.cell? ⟨H, 0, none⟩ = some (.int .i64 here.1) ∧ wr.cell? ⟨H, 1, none⟩ = some (.int .i64 here.2) ∧ wr.frozen? ⟨H, 0, none⟩ = false ∧ wr.frozen? ⟨H, 1, none⟩ = false ∧
    wr.cell? ⟨H + 1, 0, none⟩ = some (.int .i64 behind.1) ∧ wr.cell? ⟨H + 1, 1, none⟩ = some (.int .i64 behind.2) ∧ wr.frozen? ⟨H + 1, 0, none⟩ = false ∧ wr.frozen? ⟨H + 1, 1, none⟩ = false ∧
    wr.cell? ⟨B, 0, none⟩ = some (.int .i64 0) ∧ wr.cell? ⟨B, 1, none⟩ = some (.int .i64 0) ∧ wr.frozen? ⟨B, 0, none⟩ = false ∧ wr.frozen? ⟨B, 1, none⟩ = false :=
  ⟨by rw [cell_blk h.here]; rfl, by rw [cell_blk h.here]; rfl, free_blk h.here, free_blk h.here, by rw [cell_blk h.behind]; rfl, by rw [cell_blk h.behind]; rfl, free_blk h.behind, free_blk h.behind,
    by rw [cell_blk h.res]; rfl, by rw [cell_blk h.res]; rfl, free_blk h.res, free_blk h.res⟩
end

set_option maxHeartbeats 4000000 in
set_option maxRecDepth 100000 in
theorem where_any (s : ByteArray) (at_ : Int) (w : World) (hs : s.size ≤ 4611686018427387000) :
    Calls Tryd.prog 13 #[.string s, .int .i64 at_] w fun e w' => e = .returned (.agg #[.int .i64 (whereOf s at_).1, .int .i64 (whereOf s at_).2]) ∧ Below w.heap.size w w' := by
  go_enter Tryd.func13, Tryd.ntmps13
  go_wp2_with fail
  refine (beginning_any _).mono ?_
  rintro e w1 ⟨rfl, b1⟩
  go_wp2_with fail
  refine (beginning_any _).mono ?_
  rintro e w2 ⟨rfl, b2⟩
  have hB1 : w.heap.size + 1 ≤ w1.heap.size := by have := b1.size; simpa using this
  have hB2 : w.heap.size + 1 ≤ w2.heap.size := Nat.le_trans hB1 b2.size
  have hF2 : w2.heap[w.heap.size]? = some (.cells #[.int .i64 0, .int .i64 0] 26 (0, 0)) := by
    rw [b2.block _ (by omega), b1.block _ (by simp)]
    exact heap_alloc_new w _
  have hb0 : Below w.heap.size w w2 := (((Below.refl _ w).alloc (Nat.le_refl _) _).trans (b1.mono (by simp))).trans (b2.mono (by omega))
  clear b1 b2 hB1
  go_wp2
  go_loopw [] (fun wr => ∃ (pos fuel : Nat) (here behind : Int × Int), AtSpot w wr w.heap.size w2.heap.size (w2.heap.size + 1 + 1) s pos here behind ∧
      ((pos : Int) ≤ at_ → whereGo s fuel pos behind at_ = whereOf s at_) ∧ (at_ < (pos : Int) → here = whereOf s at_) ∧ s.size ≤ pos + fuel ∧ pos ≤ s.size ∧ (0 ≤ behind.1 ∧ 0 ≤ behind.2 ∧ behind.1 ≤ pos + 1 ∧ behind.2 ≤ pos + 1)) (fun wr => s.size - wr.iterPos (w2.heap.size + 1 + 1))
  case atStart =>
    refine ⟨0, s.size, (1, 1), (1, 1), ⟨?_, ?_, ?_, ?_, ?_, by omega, by omega⟩, fun _ => rfl, fun h => (whereOf_neg s at_ (by omega)).symm, by omega, by omega, by simp⟩
    · rw [World.iter, Below.heap_alloc _ _ _ (by simp; omega), Below.heap_alloc _ _ _ (by simp; omega), Below.heap_alloc _ _ _ (by omega)]; exact hF2
    · rw [World.iter, Below.heap_alloc _ _ _ (by simp; omega), Below.heap_alloc _ _ _ (by simp)]; exact heap_alloc_new w2 _
    · rw [World.iter, Below.heap_alloc _ _ _ (by simp)]
      have := heap_alloc_new (w2.alloc (.cells #[.int .i64 1, .int .i64 1] 26)) (.cells #[.int .i64 1, .int .i64 1] 26)
      simpa using this
    · have := World.iter_heap ((w2.alloc (.cells #[.int .i64 1, .int .i64 1] 26)).alloc (.cells #[.int .i64 1, .int .i64 1] 26)) s 0
      simpa using this
    · exact ((hb0.alloc (by omega) _).alloc (by simp; omega) _).alloc (by simp; omega) _
  case round =>
    obtain ⟨pos, fuel, here, behind, hat, hga, hgb, hfu, hpos, hh⟩ := hrel
    have hmeas := iterPos_of hat.iter
    have HM := Lib.hid hmeas
    have hsz := heap_lt hat.iter
    have hl := hat.lt
    clear hmeas hF2 hb0
    by_cases hp : pos < s.size
    · have hnx : ∀ ty, (Instr.next (.pointer (some ⟨w2.heap.size + 1 + 1, 0, none⟩)) true ty).run Tryd.prog wr = _ := fun ty => Lib.run_next_any_at wr (w2.heap.size + 1 + 1) s pos ty hat.iter hp
      have hwd := width_pos s pos hp
      have hwf := decode_fits s pos hp
      have hd1 := decode_le s pos
      have hat2 := hat.next (pos + (Utf8.decode s pos).2)
      obtain ⟨f, rfl⟩ : ∃ f, fuel = f + 1 := ⟨fuel - 1, by omega⟩
      have hg1 := whereGo_here s (f + 1) pos behind at_
      have hg2 := whereGo_more s f pos behind at_ hp
      have hnp := nextP_bd behind (Utf8.decode s pos).1 pos hh
      have hnc := fun W => next_any behind.1 behind.2 (Utf8.decode s pos).1 W (by omega) (by omega) (by omega) (by omega)
      generalize nextP behind (Utf8.decode s pos).1 = behind' at *
      generalize wr.iterAt (w2.heap.size + 1 + 1) s (pos + (Utf8.decode s pos).2) = W2 at *
      generalize (Utf8.decode s pos).1 = r at *
      generalize (Utf8.decode s pos).2 = n at *
      have HA := Lib.hid hga
      have HB := Lib.hid hgb
      have H1 := Lib.hid hg1
      have H2 := Lib.hid hg2
      have HN := Lib.hid hnc
      clear hga hgb hg1 hg2 hnc
      obtain ⟨c0, c1, f0, f1, c2, c3, f2, f3, e0, e1, d0, d1⟩ := hat2.cells
      by_cases hc : at_ < (pos : Int)
      · have HR := Lib.hid (HB.out hc)
        go_wp2
        refine bodyPost_ret (v := .agg #[.int .i64 here.1, .int .i64 here.2]) (by simp [results, Tryd.results13, go_sem, c0, c1, e0, e1]) rfl ?_
        exact ⟨by rw [HR.out], ((hat2.below.setCell (p := ⟨w.heap.size, 0, none⟩) (Nat.le_refl _) _).setCell (p := ⟨w.heap.size, 1, none⟩) (Nat.le_refl _) _)⟩
      · have HX := Lib.hid (HA.out (by omega))
        go_wp2_with fail
        go_region_with ((go_at_call 20; refine (HN.out _).mono ?_; rintro e w4 ⟨rfl, b4⟩; obtain ⟨c0', c1', f0', f1', c2', c3', f2', f3', e0', e1', d0', d1'⟩ := ((by first | exact hat2.drew.later b4 | exact hat2.later b4) : AtSpot w w4 w.heap.size w2.heap.size (w2.heap.size + 1 + 1) s (pos + n) here behind).cells))
        all_goals go_wp2
        all_goals
          have hat4 : AtSpot w w4 w.heap.size w2.heap.size (w2.heap.size + 1 + 1) s (pos + n) here behind := by first | exact hat2.drew.later b4 | exact hat2.later b4
          have hat5 := (hat4.setHere behind.1 behind.2).setBehind behind'.1 behind'.2
          go_roundw
          case rel =>
            refine ⟨pos + n, f, (behind.1, behind.2), (behind'.1, behind'.2), hat5, fun h => ?_, fun h => ?_, by omega, by omega, by simp only []; omega⟩
            · rw [← HX.out, H2.out (by omega)]
            · rw [← HX.out, H1.out (by omega)]
          case measure => rw [HM.out, iterPos_of hat5.iter]; omega
    · have hnx : ∀ ty, (Instr.next (.pointer (some ⟨w2.heap.size + 1 + 1, 0, none⟩)) true ty).run Tryd.prog wr = _ := fun ty => Lib.run_next_end_at wr (w2.heap.size + 1 + 1) s pos ty hat.iter hp
      have hend := whereGo_end s fuel pos behind at_ hp
      obtain ⟨c0, c1, f0, f1, c2, c3, f2, f3, e0, e1, d0, d1⟩ := hat.cells
      by_cases hc : at_ < (s.size : Int)
      · have HR := Lib.hid (hgb (by omega))
        clear hgb hga hend
        go_wp2
        refine bodyPost_ret (v := .agg #[.int .i64 here.1, .int .i64 here.2]) (by simp [results, Tryd.results13, go_sem, c0, c1, e0, e1]) rfl ?_
        exact ⟨by rw [HR.out], ((hat.below.setCell (p := ⟨w.heap.size, 0, none⟩) (Nat.le_refl _) _).setCell (p := ⟨w.heap.size, 1, none⟩) (Nat.le_refl _) _)⟩
      · have HR : Hid (behind = whereOf s at_) := by rw [← hend]; exact hga (by omega)
        clear hgb hga hend
        go_wp2
        refine bodyPost_ret (v := .agg #[.int .i64 behind.1, .int .i64 behind.2]) (by simp [results, Tryd.results13, go_sem, c2, c3, e0, e1]) rfl ?_
        exact ⟨by rw [HR.out], ((hat.below.setCell (p := ⟨w.heap.size, 0, none⟩) (Nat.le_refl _) _).setCell (p := ⟨w.heap.size, 1, none⟩) (Nat.le_refl _) _)⟩
end Go.Proofs.YtdpahcnenjnbhaaDoor
