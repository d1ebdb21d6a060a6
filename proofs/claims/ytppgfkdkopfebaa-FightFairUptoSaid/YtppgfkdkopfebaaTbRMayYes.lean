/- joustref06: May: a table that may be is told so. -/
import Derived.Test.YtppgfkdkopfebaaTbOneYes
namespace Go.Proofs.Ytppgfkdkopfebaa
open Go.RowKit Go.Lib

set_option maxHeartbeats 8000000 in
set_option maxRecDepth 100000 in
theorem rmay_yes (t : Tb) (xs : List Cd) (ps : List Pc) (w : World) (hT : TabIn w t xs ps) (hL : LifeOk t) (hG : GoodB xs ps) : Calls Try.prog 23 #[.agg t.row] w (TrueEnds w) := by
  have h : 0 ≤ t.l0 ∧ t.l0 ≤ 99999 ∧ 0 ≤ t.l1 ∧ t.l1 ≤ 99999 ∧ 1 ≤ t.tn ∧ t.py ≤ 1 ∧ t.np ≤ 144 := ⟨hL.l0.1, hL.l0.2, hL.l1.1, hL.l1.2, hL.tn, hL.py, by rw [hT.np.1]; exact hG.few⟩
  have HN := Lib.hid hT.np
  have HT := Lib.hid hT
  have HG := Lib.hid hG
  have hone := Lib.hid fun (W : World) (hb : Below w.heap.size w W) (i : Nat) (p : Pc) (hi : ps[i]? = some p) => rone_yes t xs ps i p W (hT.below hb) hi (hG.one p (List.mem_of_getElem? hi))
  have hmany := Lib.hid fun (W : World) (hb : Below w.heap.size w W) (h z : Nat) (a : Int) => rmany_any t xs ps h z a W (hT.below hb)
  clear hT hL hG
  obtain ⟨w0, hw0⟩ : ∃ w0, w0 = w.alloc (.cells t.row 28) := ⟨_, rfl⟩
  have hb0 : Below w.heap.size w w0 := by rw [hw0]; exact (Below.refl _ _).alloc (Nat.le_refl _) _
  have hx0 : w0.heap[w.heap.size]? = some (.cells t.row 28 (0, 0)) := by rw [hw0]; exact heap_alloc_new _ _
  have HB0 := Lib.hid hb0
  have HX0 := Lib.hid hx0
  have HW0 := Lib.hid hw0
  clear hb0 hx0 hw0
  have h1 : ¬ t.l0 < 0 := by omega
  have h2 : ¬ t.l0 > 99999 := by omega
  have h3 : ¬ t.l1 < 0 := by omega
  have h4 : ¬ t.l1 > 99999 := by omega
  have h5 : ¬ t.tn < 1 := by omega
  have h6 : ¬ (t.py : Int) > 1 := by omega
  have h7 : ¬ (t.np : Int) > 144 := by omega
  simp only [Tb.row] at *
  go_enter Try.func23, Try.ntmps23
  go_wp2_with fail
  rw [← HW0.out]
  go_loopw [3, 4] (fun vl vi wr => ∃ k : Nat, vi = .int .i64 k ∧ k ≤ t.np ∧ vl = .int .i64 ((ps.take k).countP (fun p => p.zn == 6)) ∧ Below w0.heap.size w0 wr) (fun _ vi _ => t.np - (RowKit.intOf vi).toNat)
  case atStart => exact ⟨0, by rfl, by omega, by simp, Below.refl _ _⟩
  case round =>
    obtain ⟨k, rfl, hk, rfl, hbw⟩ := hrel
    rename World => wA
    have hx1 := (hbw.block _ (heap_lt HX0.out)).trans HX0.out
    have hltA := heap_lt hx1
    have y1 := cell_blk (i := 1) hx1
    have y0 := cell_blk (i := 0) hx1
    have y2 := cell_blk (i := 2) hx1
    have y3 := cell_blk (i := 3) hx1
    have y4 := cell_blk (i := 4) hx1
    have y5 := cell_blk (i := 5) hx1
    have y6 := cell_blk (i := 6) hx1
    have y7 := cell_blk (i := 7) hx1
    have y8 := cell_blk (i := 8) hx1
    have y9 := cell_blk (i := 9) hx1
    simp at y0 y1 y2 y3 y4 y5 y6 y7 y8 y9
    obtain ⟨A, hA⟩ : ∃ A, (ps.take k).countP (fun p => p.zn == 6) = A := ⟨_, rfl⟩
    have hA1 : A ≤ k := by rw [← hA]; exact count_take_le _ _ _
    rw [hA]
    have HBW := Lib.hid hbw
    have HBw : Hid (Below w.heap.size w wA) := Lib.hid (HB0.out.trans (hbw.mono HB0.out.size))
    clear hx1 hbw
    by_cases hlt : k < t.np
    · obtain ⟨p, hp⟩ : ∃ p, ps[k]? = some p := ⟨ps[k]'(by have := HN.out; omega), List.getElem?_eq_getElem _⟩
      obtain ⟨g, o, hq, hg, hc⟩ := HT.out.piece hp
      have hcall := Lib.hid fun (W : World) (hb : Below w.heap.size w W) => hone.out W hb k p hp
      have hcm := Lib.hid fun (W : World) (hb : Below w.heap.size w W) => hmany.out W hb p.hs p.zn p.pl
      have nz := count_next (fun p => p.zn == 6) hp
      rw [hA] at nz
      have NZ := Lib.hid nz
      have hpm := List.mem_of_getElem? hp
      have HU := Lib.hid (HG.out.uniq p hpm)
      have HPI := Lib.hid (HG.out.pile p hpm)
      have i0 : (0 : Int) ≤ (k : Int) := by omega
      have i1 : (k : Int) < (t.np : Int) := by omega
      have HC := Lib.hid hc
      clear nz hp hA hc hpm
      rw [hq] at y1 hcall hcm
      clear hq
      go_wp2_with fail
      refine (hcall.out _ HBw.out).mono ?_
      rintro e w2 ⟨rfl, b2⟩
      have HB2 : Hid (Below w0.heap.size w0 w2) := Lib.hid (HBW.out.trans (b2.mono HBW.out.size))
      have HBw2 : Hid (Below w.heap.size w w2) := Lib.hid (HBw.out.trans (b2.mono HBw.out.size))
      have hz2 := b2.size
      replace y0 := below_cell' b2 y0 hltA
      replace y1 := below_cell' b2 y1 hltA
      replace y2 := below_cell' b2 y2 hltA
      replace y3 := below_cell' b2 y3 hltA
      replace y4 := below_cell' b2 y4 hltA
      replace y5 := below_cell' b2 y5 hltA
      replace y6 := below_cell' b2 y6 hltA
      replace y7 := below_cell' b2 y7 hltA
      replace y8 := below_cell' b2 y8 hltA
      replace y9 := below_cell' b2 y9 hltA
      have hlt2 : w.heap.size < w2.heap.size := by omega
      clear b2 hz2
      have hc := fun j u hu => cell_later HBw2.out (HC.out j u hu)
      have c0 := hc 0 _ rfl
      have c1 := hc 1 _ rfl
      have c2 := hc 2 _ rfl
      have c3 := hc 3 _ rfl
      have c4 := hc 4 _ rfl
      have c5 := hc 5 _ rfl
      have c6 := hc 6 _ rfl
      have c7 := hc 7 _ rfl
      have c8 := hc 8 _ rfl
      have c9 := hc 9 _ rfl
      have c10 := hc 10 _ rfl
      have c11 := hc 11 _ rfl
      have c12 := hc 12 _ rfl
      have c13 := hc 13 _ rfl
      simp only [Nat.add_zero] at c0
      clear hc
      go_wp2_with fail
      refine (hcm.out _ (HBw2.out.alloc HBw2.out.size _)).mono ?_
      rintro e w3 ⟨rfl, b3⟩
      have q0 := (b3.block w2.heap.size (by simp)).trans (heap_newer _ _ _ rfl)
      have hq0 := heap_lt q0
      have z5 := cell_blk (i := 5) q0
      have z6 := cell_blk (i := 6) q0
      simp at z5 z6
      have HB3 : Hid (Below w0.heap.size w0 w3) := Lib.hid ((HB2.out.alloc HB2.out.size _).trans (b3.mono (by have := HB2.out.size; simp; omega)))
      obtain ⟨M, hM⟩ : ∃ M, ps.countP (inZ p.hs p.zn) = M := ⟨_, rfl⟩
      obtain ⟨R, hR⟩ : ∃ R, ps.countP (inP p.hs p.zn p.pl) = R := ⟨_, rfl⟩
      rw [hM] at HPI
      rw [hR] at HU
      rw [hM, hR]
      clear b3 q0 c0 c1 c2 c3 c4 c5 c6 c7 c8 c9 c10 c11 c12 c13 y0 y1 y2 y3 y4 y5 y6 y7 y8 y9 hM hR hcm hcall
      by_cases h6z : p.zn = 6
      · have e6 : ((p.zn : Int) == 6) = true := by simp [h6z]
        have HZ := Lib.hid h6z
        clear h6z
        go_wp2_with fail
        go_roundw
        case rel => exact ⟨k + 1, by go_num, by omega, by rw [NZ.out, HZ.out]; simp, HB3.out⟩
        case measure => simp [RowKit.intOf]; omega
      · have e6 : ((p.zn : Int) == 6) = false := by simp; omega
        have HZ := Lib.hid h6z
        clear h6z
        by_cases h7z : p.zn = 7
        · have e7 : ((p.zn : Int) != 7) = false := by simp [h7z]
          clear h7z
          go_wp2_with fail
          go_roundw
          case rel => exact ⟨k + 1, by go_num, by omega, by rw [NZ.out]; simp [HZ.out], HB3.out⟩
          case measure => simp [RowKit.intOf]; omega
        · have e7 : ((p.zn : Int) != 7) = true := by simp; omega
          have hR1 := HU.out HZ.out h7z
          have hPI := HPI.out HZ.out h7z
          clear h7z
          have e1 : ((R : Int) != 1) = false := by simp [hR1]
          clear hR1
          go_wp2_with fail
          refine (rshared_any _ _).mono ?_
          rintro e w4 ⟨rfl, rfl⟩
          cases hsh : sharedB p.zn with
          | true =>
            clear hPI
            go_wp2_with fail
            go_roundw
            case rel => exact ⟨k + 1, by go_num, by omega, by rw [NZ.out]; simp [HZ.out], HB3.out⟩
            case measure => simp [RowKit.intOf]; omega
          | false =>
            have hPI2 := hPI hsh
            clear hPI
            have hl : ¬ p.pl < 0 := by omega
            have hl2 : ¬ p.pl ≥ (M : Int) := by omega
            clear hPI2
            go_wp2_with fail
            go_roundw
            case rel => exact ⟨k + 1, by go_num, by omega, by rw [NZ.out]; simp [HZ.out], HB3.out⟩
            case measure => simp [RowKit.intOf]; omega
    · obtain rfl : k = t.np := by omega
      have hl := HN.out.1
      rw [List.take_of_length_le (by omega)] at hA
      have hA2 : (A : Int) ≤ 1 := by have := HG.out.limbo; omega
      clear hA hl
      go_wp2_with fail
      go_ret
      exact ⟨rfl, HBw.out⟩
end Go.Proofs.Ytppgfkdkopfebaa
