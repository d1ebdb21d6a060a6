/- joustref06: May: a table that is told that it may be is so. -/
import Derived.Test.YtppgfkdkopfebaaTbGood
namespace Go.Proofs.Ytppgfkdkopfebaa
open Go.RowKit Go.Lib

/-- An answer of yes, if so. -/
def YesEnds (Q : Prop) (w : World) (e : Ending) (w' : World) : Prop := (∃ b, e = .returned (.bool b) ∧ (b = true → Q)) ∧ Below w.heap.size w w'
theorem yes_no {Q : Prop} {w w' : World} (h : Below w.heap.size w w') : YesEnds Q w (.returned (.bool false)) w' := ⟨⟨false, rfl, fun h => by cases h⟩, h⟩
theorem yes_if {Q : Prop} {w w' : World} {b : Bool} (hb : b = true → Q) (h : Below w.heap.size w w') : YesEnds Q w (.returned (.bool b)) w' := ⟨⟨b, rfl, hb⟩, h⟩
/-- What is known of the pieces ahead of a place. -/
structure SoFar (xs : List Cd) (ps : List Pc) (k : Nat) : Prop where
  one : ∀ j p, j < k → ps[j]? = some p → OneP xs p
  uniq : ∀ j p, j < k → ps[j]? = some p → p.zn ≠ 6 → p.zn ≠ 7 → ps.countP (inP p.hs p.zn p.pl) = 1
  pile : ∀ j p, j < k → ps[j]? = some p → p.zn ≠ 6 → p.zn ≠ 7 → sharedB p.zn = false → 0 ≤ p.pl ∧ p.pl < ps.countP (inZ p.hs p.zn)
theorem SoFar.next {xs : List Cd} {ps : List Pc} {k : Nat} {p : Pc} (h : SoFar xs ps k) (hp : ps[k]? = some p) (h1 : OneP xs p) (h2 : p.zn ≠ 6 → p.zn ≠ 7 → ps.countP (inP p.hs p.zn p.pl) = 1)
    (h3 : p.zn ≠ 6 → p.zn ≠ 7 → sharedB p.zn = false → 0 ≤ p.pl ∧ p.pl < ps.countP (inZ p.hs p.zn)) : SoFar xs ps (k + 1) := by
  refine ⟨fun j q hj hq => ?_, fun j q hj hq => ?_, fun j q hj hq => ?_⟩
  · by_cases hjk : j < k
    · exact h.one j q hjk hq
    · obtain rfl : j = k := by omega
      rw [hp] at hq; cases hq; exact h1
  · by_cases hjk : j < k
    · exact h.uniq j q hjk hq
    · obtain rfl : j = k := by omega
      rw [hp] at hq; cases hq; exact h2
  · by_cases hjk : j < k
    · exact h.pile j q hjk hq
    · obtain rfl : j = k := by omega
      rw [hp] at hq; cases hq; exact h3
theorem SoFar.good {xs : List Cd} {ps : List Pc} (h : SoFar xs ps ps.length) (hf : ps.length ≤ 144) (hl : ps.countP (fun p => p.zn == 6) ≤ 1) : GoodB xs ps := by
  have hat : ∀ p ∈ ps, ∃ j, j < ps.length ∧ ps[j]? = some p := fun p hp => by
    obtain ⟨j, hj⟩ := List.getElem?_of_mem hp
    exact ⟨j, (List.getElem?_eq_some_iff.1 hj).1, hj⟩
  refine ⟨hf, fun p hp => ?_, fun p hp => ?_, fun p hp => ?_, hl⟩
  · obtain ⟨j, h1, h2⟩ := hat p hp
    exact h.one j p h1 h2
  · obtain ⟨j, h1, h2⟩ := hat p hp
    exact h.uniq j p h1 h2
  · obtain ⟨j, h1, h2⟩ := hat p hp
    exact h.pile j p h1 h2

set_option maxHeartbeats 4000000 in
set_option maxRecDepth 100000 in
theorem rmay_out (t : Tb) (Q : Prop) (w : World) (h : ¬ (0 ≤ t.l0 ∧ t.l0 ≤ 99999 ∧ 0 ≤ t.l1 ∧ t.l1 ≤ 99999 ∧ 1 ≤ t.tn ∧ t.py ≤ 1 ∧ t.np ≤ 144)) : Calls Try.prog 23 #[.agg t.row] w (YesEnds Q w) := by
  simp only [Tb.row]
  go_enter Try.func23, Try.ntmps23
  go_wp2_with fail
  all_goals first
    | (go_ret; exact yes_no ((Below.refl _ _).alloc (Nat.le_refl _) _))
    | (exfalso; omega)

set_option maxHeartbeats 8000000 in
set_option maxRecDepth 100000 in
theorem rmay_in (t : Tb) (xs : List Cd) (ps : List Pc) (w : World) (hT : TabIn w t xs ps) (h : 0 ≤ t.l0 ∧ t.l0 ≤ 99999 ∧ 0 ≤ t.l1 ∧ t.l1 ≤ 99999 ∧ 1 ≤ t.tn ∧ t.py ≤ 1 ∧ t.np ≤ 144) : Calls Try.prog 23 #[.agg t.row] w (YesEnds (LifeOk t ∧ GoodB xs ps) w) := by
  have HL : Hid (LifeOk t) := Lib.hid ⟨by omega, by omega, by omega, by omega⟩
  have HN := Lib.hid hT.np
  have HT := Lib.hid hT
  have hone := Lib.hid fun (W : World) (hb : Below w.heap.size w W) (i : Nat) (p : Pc) (hi : ps[i]? = some p) => rone_any t xs ps i p W (hT.below hb) hi
  have hmany := Lib.hid fun (W : World) (hb : Below w.heap.size w W) (h z : Nat) (a : Int) => rmany_any t xs ps h z a W (hT.below hb)
  clear hT
  obtain ⟨w0, hw0⟩ : ∃ w0, w0 = w.alloc (.cells t.row 28) := ⟨_, rfl⟩
  have hb0 : Below w.heap.size w w0 := by rw [hw0]; exact (Below.refl _ _).alloc (Nat.le_refl _) _
  have hx0 : w0.heap[w.heap.size]? = some (.cells t.row 28 (0, 0)) := by rw [hw0]; exact heap_alloc_new _ _
  have HB0 := Lib.hid hb0
  have HX0 := Lib.hid hx0
  have HW0 := Lib.hid hw0
  clear hb0 hx0 hw0
  have h1 : ¬ t.l0 < 0 := by omega
  have h2 : ¬ t.l0 > 99999 := by omega
  have h3 : ¬ t.l1 < 0 := by omega
  have h4 : ¬ t.l1 > 99999 := by omega
  have h5 : ¬ t.tn < 1 := by omega
  have h6 : ¬ (t.py : Int) > 1 := by omega
  have h7 : ¬ (t.np : Int) > 144 := by omega
  simp only [Tb.row] at *
  go_enter Try.func23, Try.ntmps23
  go_wp2_with fail
  rw [← HW0.out]
  go_loopw [3, 4] (fun vl vi wr => ∃ k : Nat, vi = .int .i64 k ∧ k ≤ t.np ∧ vl = .int .i64 ((ps.take k).countP (fun p => p.zn == 6)) ∧ SoFar xs ps k ∧ Below w0.heap.size w0 wr) (fun _ vi _ => t.np - (RowKit.intOf vi).toNat)
  case atStart => exact ⟨0, by rfl, by omega, by simp, ⟨fun j p h => by omega, fun j p h => by omega, fun j p h => by omega⟩, Below.refl _ _⟩
  case round =>
    obtain ⟨k, rfl, hk, rfl, hso, hbw⟩ := hrel
    rename World => wA
    have hx1 := (hbw.block _ (heap_lt HX0.out)).trans HX0.out
    have hltA := heap_lt hx1
    have y1 := cell_blk (i := 1) hx1
    have y0 := cell_blk (i := 0) hx1
    have y2 := cell_blk (i := 2) hx1
    have y3 := cell_blk (i := 3) hx1
    have y4 := cell_blk (i := 4) hx1
    have y5 := cell_blk (i := 5) hx1
    have y6 := cell_blk (i := 6) hx1
    have y7 := cell_blk (i := 7) hx1
    have y8 := cell_blk (i := 8) hx1
    have y9 := cell_blk (i := 9) hx1
    simp at y0 y1 y2 y3 y4 y5 y6 y7 y8 y9
    obtain ⟨A, hA⟩ : ∃ A, (ps.take k).countP (fun p => p.zn == 6) = A := ⟨_, rfl⟩
    have hA1 : A ≤ k := by rw [← hA]; exact count_take_le _ _ _
    rw [hA]
    have HBW := Lib.hid hbw
    have HBw : Hid (Below w.heap.size w wA) := Lib.hid (HB0.out.trans (hbw.mono HB0.out.size))
    have HS := Lib.hid hso
    clear hx1 hbw hso
    by_cases hlt : k < t.np
    · obtain ⟨p, hp⟩ : ∃ p, ps[k]? = some p := ⟨ps[k]'(by have := HN.out; omega), List.getElem?_eq_getElem _⟩
      obtain ⟨g, o, hq, hg, hc⟩ := HT.out.piece hp
      have hcall := Lib.hid fun (W : World) (hb : Below w.heap.size w W) => hone.out W hb k p hp
      have hcm := Lib.hid fun (W : World) (hb : Below w.heap.size w W) => hmany.out W hb p.hs p.zn p.pl
      have nz := count_next (fun p => p.zn == 6) hp
      rw [hA] at nz
      have NZ := Lib.hid nz
      have HP := Lib.hid hp
      have i0 : (0 : Int) ≤ (k : Int) := by omega
      have i1 : (k : Int) < (t.np : Int) := by omega
      have HC := Lib.hid hc
      clear nz hp hA hc
      rw [hq] at y1 hcall hcm
      clear hq
      go_wp2_with fail
      refine (hcall.out _ HBw.out).mono ?_
      rintro e w2 ⟨⟨b, rfl, hb⟩, b2⟩
      have HB2 : Hid (Below w0.heap.size w0 w2) := Lib.hid (HBW.out.trans (b2.mono HBW.out.size))
      have HBw2 : Hid (Below w.heap.size w w2) := Lib.hid (HBw.out.trans (b2.mono HBw.out.size))
      have hz2 := b2.size
      replace y0 := below_cell' b2 y0 hltA
      replace y1 := below_cell' b2 y1 hltA
      replace y2 := below_cell' b2 y2 hltA
      replace y3 := below_cell' b2 y3 hltA
      replace y4 := below_cell' b2 y4 hltA
      replace y5 := below_cell' b2 y5 hltA
      replace y6 := below_cell' b2 y6 hltA
      replace y7 := below_cell' b2 y7 hltA
      replace y8 := below_cell' b2 y8 hltA
      replace y9 := below_cell' b2 y9 hltA
      have hlt2 : w.heap.size < w2.heap.size := by omega
      clear b2 hz2
      cases b with
      | false =>
        clear hb
        go_wp2_with fail
        go_ret
        exact yes_no HBw2.out
      | true =>
        have HO := Lib.hid (hb rfl)
        clear hb
        have hc := fun j u hu => cell_later HBw2.out (HC.out j u hu)
        have c0 := hc 0 _ rfl
        have c1 := hc 1 _ rfl
        have c2 := hc 2 _ rfl
        have c3 := hc 3 _ rfl
        have c4 := hc 4 _ rfl
        have c5 := hc 5 _ rfl
        have c6 := hc 6 _ rfl
        have c7 := hc 7 _ rfl
        have c8 := hc 8 _ rfl
        have c9 := hc 9 _ rfl
        have c10 := hc 10 _ rfl
        have c11 := hc 11 _ rfl
        have c12 := hc 12 _ rfl
        have c13 := hc 13 _ rfl
        simp only [Nat.add_zero] at c0
        clear hc
        go_wp2_with fail
        refine (hcm.out _ (HBw2.out.alloc HBw2.out.size _)).mono ?_
        rintro e w3 ⟨rfl, b3⟩
        have q0 := (b3.block w2.heap.size (by simp)).trans (heap_newer _ _ _ rfl)
        have hq0 := heap_lt q0
        have z5 := cell_blk (i := 5) q0
        have z6 := cell_blk (i := 6) q0
        simp at z5 z6
        have HB3 : Hid (Below w0.heap.size w0 w3) := Lib.hid ((HB2.out.alloc HB2.out.size _).trans (b3.mono (by have := HB2.out.size; simp; omega)))
        have HBw3 : Hid (Below w.heap.size w w3) := Lib.hid ((HBw2.out.alloc HBw2.out.size _).trans (b3.mono (by have := HBw2.out.size; simp; omega)))
        obtain ⟨M, hM⟩ : ∃ M, ps.countP (inZ p.hs p.zn) = M := ⟨_, rfl⟩
        obtain ⟨R, hR⟩ : ∃ R, ps.countP (inP p.hs p.zn p.pl) = R := ⟨_, rfl⟩
        rw [hM, hR]
        have HM := Lib.hid hM
        have HR := Lib.hid hR
        clear b3 q0 c0 c1 c2 c3 c4 c5 c6 c7 c8 c9 c10 c11 c12 c13 y0 y1 y2 y3 y4 y5 y6 y7 y8 y9 hM hR hcm hcall
        by_cases h6z : p.zn = 6
        · have e6 : ((p.zn : Int) == 6) = true := by simp [h6z]
          have HZ := Lib.hid h6z
          clear h6z
          go_wp2_with fail
          go_roundw
          case rel => exact ⟨k + 1, by go_num, by omega, by rw [NZ.out, HZ.out]; simp, HS.out.next HP.out HO.out (fun h => absurd HZ.out h) (fun h => absurd HZ.out h), HB3.out⟩
          case measure => simp [RowKit.intOf]; omega
        · have e6 : ((p.zn : Int) == 6) = false := by simp; omega
          have HZ := Lib.hid h6z
          clear h6z
          by_cases h7z : p.zn = 7
          · have e7 : ((p.zn : Int) != 7) = false := by simp [h7z]
            have HZ7 := Lib.hid h7z
            clear h7z
            go_wp2_with fail
            go_roundw
            case rel => exact ⟨k + 1, by go_num, by omega, by rw [NZ.out]; simp [HZ.out], HS.out.next HP.out HO.out (fun _ h => absurd HZ7.out h) (fun _ h => absurd HZ7.out h), HB3.out⟩
            case measure => simp [RowKit.intOf]; omega
          · have e7 : ((p.zn : Int) != 7) = true := by simp; omega
            clear h7z
            by_cases hR1 : R = 1
            · have e1 : ((R : Int) != 1) = false := by simp [hR1]
              have HR1 := Lib.hid hR1
              clear hR1
              go_wp2_with fail
              refine (rshared_any _ _).mono ?_
              rintro e w4 ⟨rfl, rfl⟩
              cases hsh : sharedB p.zn with
              | true =>
                go_wp2_with fail
                go_roundw
                case rel => exact ⟨k + 1, by go_num, by omega, by rw [NZ.out]; simp [HZ.out], HS.out.next HP.out HO.out (fun _ _ => by rw [HR.out, HR1.out]) (fun _ _ h => by rw [hsh] at h; cases h), HB3.out⟩
                case measure => simp [RowKit.intOf]; omega
              | false =>
                by_cases hl : p.pl < 0
                · go_wp2_with fail
                  go_ret
                  exact yes_no HBw3.out
                by_cases hl2 : p.pl ≥ (M : Int)
                · go_wp2_with fail
                  go_ret
                  exact yes_no HBw3.out
                · go_wp2_with fail
                  go_roundw
                  case rel => exact ⟨k + 1, by go_num, by omega, by rw [NZ.out]; simp [HZ.out], HS.out.next HP.out HO.out (fun _ _ => by rw [HR.out, HR1.out]) (fun _ _ _ => by rw [HM.out]; omega), HB3.out⟩
                  case measure => simp [RowKit.intOf]; omega
            · have e1 : ((R : Int) != 1) = true := by simp; omega
              clear hR1
              go_wp2_with fail
              go_ret
              exact yes_no HBw3.out
    · obtain rfl : k = t.np := by omega
      have hl := HN.out.1
      rw [List.take_of_length_le (by omega)] at hA
      have HA := Lib.hid hA
      have HLN := Lib.hid hl
      clear hA hl
      by_cases hA2 : (A : Int) ≤ 1
      · go_wp2_with fail
        go_ret
        exact yes_if (fun _ => ⟨HL.out, SoFar.good (by rw [← HLN.out]; exact HS.out) (by rw [← HLN.out]; omega) (by rw [HA.out]; omega)⟩) HBw.out
      · go_wp2_with fail
        go_ret
        exact yes_no HBw.out

theorem rmay_any (t : Tb) (xs : List Cd) (ps : List Pc) (w : World) (hT : TabIn w t xs ps) : Calls Try.prog 23 #[.agg t.row] w (YesEnds (LifeOk t ∧ GoodB xs ps) w) := by
  by_cases h : 0 ≤ t.l0 ∧ t.l0 ≤ 99999 ∧ 0 ≤ t.l1 ∧ t.l1 ≤ 99999 ∧ 1 ≤ t.tn ∧ t.py ≤ 1 ∧ t.np ≤ 144
  · exact rmay_in t xs ps w hT h
  · exact rmay_out t _ w h
end Go.Proofs.Ytppgfkdkopfebaa
