import Derived.Test.YtlbbabojejimpaaQSymA
/- slices' rotate of a row: two ranges beside each other changed about. -/
namespace Go.Proofs.Ytlbbabojejimpaa.Sym
open Go.RowKit Go.Lib

theorem swapR_at {P A M B S : List Nat} {a b n : Nat} (ha : P.length = a) (hb : a + A.length + M.length = b) (hA : A.length = n) (hB : B.length = n) : swapR (P ++ (A ++ (M ++ (B ++ S)))) a b n = P ++ (B ++ (M ++ (A ++ S))) := by
  subst ha hb hA
  exact swapR_parts P A M B S hB.symm

set_option maxHeartbeats 4000000 in
set_option maxRecDepth 100000 in
theorem rotate_any (N g cap : Nat) (cf : Value) (X U V Y : List Nat) (a m b len : Nat) (w : World) (hlen : (X ++ (U ++ (V ++ Y))).length = len) (ha : X.length = a) (hm : a + U.length = m) (hb : m + V.length = b) (hU : 0 < U.length) (hV : 0 < V.length) (hf : len ≤ 1000000) (h : Lies N w g (X ++ (U ++ (V ++ Y)))) :
    Calls Try.prog 62 #[.slice (some ⟨g, 0, none⟩) len cap, .int .i64 a, .int .i64 m, .int .i64 b, cf] w fun e w' => e = .returned (.tuple #[]) ∧ Kept g w w' ∧ Lies N w' g (X ++ (V ++ (U ++ Y))) := by
  have H := Lib.hid h
  obtain ⟨i0, hi0⟩ : ∃ i, U.length = i := ⟨_, rfl⟩
  obtain ⟨j0, hj0⟩ : ∃ j, V.length = j := ⟨_, rfl⟩
  have hl0 : a + i0 + j0 + Y.length = len := by rw [← hlen, ← ha, ← hi0, ← hj0]; simp; omega
  have HI := Lib.hid hi0
  have HJ := Lib.hid hj0
  have HA := Lib.hid ha
  have HLN := Lib.hid hlen
  obtain ⟨T, hT⟩ : ∃ T, X ++ (V ++ (U ++ Y)) = T := ⟨_, rfl⟩
  have HT := Lib.hid hT
  rw [hT]
  rw [hi0] at hm hU
  rw [hj0] at hb hV
  have e1 : (m : Int) - (a : Int) = (i0 : Int) := by omega
  have e2 : (b : Int) - (m : Int) = (j0 : Int) := by omega
  clear h hi0 hj0 ha hT hlen
  go_enter Try.func62, Try.ntmps62
  go_wp2_with fail
  go_loopw [10, 11] (fun vi vj wr => ∃ (i j x : Nat) (X' U' V' Y' : List Nat), vi = .int .i64 i ∧ vj = .int .i64 j ∧ 0 < i ∧ 0 < j ∧ x + i = m ∧ m + j + Y'.length = len ∧ Hid (U'.length = i ∧ V'.length = j ∧ X'.length = x ∧ X' ++ (V' ++ (U' ++ Y')) = T) ∧ Kept g w wr ∧ Lies N wr g (X' ++ (U' ++ (V' ++ Y')))) (fun vi vj _ => (RowKit.intOf vi).toNat + (RowKit.intOf vj).toNat)
  case atStart => exact ⟨i0, j0, a, X, U, V, Y, by rfl, by rfl, hU, hV, by omega, by omega, Lib.hid ⟨HI.out, HJ.out, HA.out, HT.out⟩, Kept.refl _ _, H.out⟩
  case round =>
    clear e1 e2 hm hb hU hV hl0 H HI HJ HA HT HLN
    obtain ⟨i, j, x, X', U', V', Y', rfl, rfl, hi, hj, hx, hl, hh, hk, hL⟩ := hrel
    rename World => wA
    have HH := hh
    have HK := Lib.hid hk
    have e1 : (m : Int) - (i : Int) = (x : Int) := by omega
    by_cases heq : i = j
    · have hs := swapRange_any N g cap cf _ x m i len wA (by simp [hh.out.1, hh.out.2.1, hh.out.2.2.1]; omega) (by omega) (by omega) hf (show Lies N wA g (X' ++ (U' ++ ([] ++ (V' ++ Y')))) from hL)
      rw [swapR_at hh.out.2.2.1 (by rw [hh.out.1]; simp; omega) hh.out.1 (by rw [hh.out.2.1, heq]), List.nil_append, hh.out.2.2.2] at hs
      have HS := Lib.hid hs
      subst heq
      clear hs hk hL hh HH
      go_wp2_with fail
      refine HS.out.mono ?_
      rintro e w2 ⟨rfl, hk2, hL2⟩
      have HK2 := Lib.hid (HK.out.trans hk2)
      have HL2 := Lib.hid hL2
      clear hk2 hL2
      go_wp2_with fail
      go_end0
      exact ⟨rfl, HK2.out, HL2.out⟩
    · by_cases hgt : (i : Int) > (j : Int)
      · have hU1 : (U'.take j).length = j := by rw [List.length_take, hh.out.1]; omega
        have hU2 : (U'.drop j).length = i - j := by rw [List.length_drop, hh.out.1]
        have hs := swapRange_any N g cap cf _ x m j len wA (by simp [hh.out.1, hh.out.2.1, hh.out.2.2.1]; omega) (by omega) (by omega) hf (show Lies N wA g (X' ++ (U'.take j ++ (U'.drop j ++ (V' ++ Y')))) by rw [← List.append_assoc (U'.take j), List.take_append_drop]; exact hL)
        rw [swapR_at hh.out.2.2.1 (by rw [hU1, hU2]; omega) hU1 hh.out.2.1] at hs
        have HS := Lib.hid hs
        have HE := Lib.hid (show (U'.drop j).length = i - j ∧ (U'.take j).length = j ∧ (X' ++ V').length = x + j ∧ (X' ++ V') ++ (U'.take j ++ (U'.drop j ++ Y')) = T from ⟨hU2, hU1, by rw [List.length_append, hh.out.2.2.1, hh.out.2.1], by rw [← List.append_assoc (U'.take j), List.take_append_drop, List.append_assoc]; exact hh.out.2.2.2⟩)
        have e3 : ((i : Int) - (j : Int)) = ((i - j : Nat) : Int) := by omega
        have hne : ((i : Int) != (j : Int)) = true := by simp; omega
        clear hs hk hL hh HH hU1 hU2
        go_wp2_with fail
        refine HS.out.mono ?_
        rintro e w2 ⟨rfl, hk2, hL2⟩
        have HK2 := Lib.hid (HK.out.trans hk2)
        have HL2 := Lib.hid hL2
        clear hk2 hL2
        go_wp2_with fail
        go_roundw
        case rel => exact ⟨i - j, j, x + j, X' ++ V', U'.drop j, U'.take j, Y', by go_num, by rfl, by omega, hj, by omega, hl, HE, HK2.out, by rw [List.append_assoc]; exact HL2.out⟩
        case measure => simp [RowKit.intOf]; omega
      · have hV1 : (V'.take (j - i)).length = j - i := by rw [List.length_take, hh.out.2.1]; omega
        have hV2 : (V'.drop (j - i)).length = i := by rw [List.length_drop, hh.out.2.1]; omega
        have hs := swapRange_any N g cap cf _ x (m + (j - i)) i len wA (by simp [hh.out.1, hh.out.2.1, hh.out.2.2.1]; omega) (by omega) (by omega) hf (show Lies N wA g (X' ++ (U' ++ (V'.take (j - i) ++ (V'.drop (j - i) ++ Y')))) by rw [← List.append_assoc (V'.take (j - i)), List.take_append_drop]; exact hL)
        rw [swapR_at hh.out.2.2.1 (by rw [hh.out.1, hV1]; omega) hh.out.1 hV2] at hs
        have HS := Lib.hid hs
        have HE := Lib.hid (show (V'.drop (j - i)).length = i ∧ (V'.take (j - i)).length = j - i ∧ X'.length = x ∧ X' ++ (V'.take (j - i) ++ (V'.drop (j - i) ++ (U' ++ Y'))) = T from ⟨hV2, hV1, hh.out.2.2.1, by rw [← List.append_assoc (V'.take (j - i)), List.take_append_drop]; exact hh.out.2.2.2⟩)
        have e3 : ((j : Int) - (i : Int)) = ((j - i : Nat) : Int) := by omega
        have e4 : (m : Int) + (j : Int) - (i : Int) = ((m + (j - i) : Nat) : Int) := by omega
        have hne : ((i : Int) != (j : Int)) = true := by simp; omega
        have hlY : m + (j - i) + (U' ++ Y').length = len := by rw [List.length_append, hh.out.1]; omega
        have HLY := Lib.hid hlY
        clear hs hk hL hh HH hV1 hV2 hlY
        go_wp2_with fail
        refine HS.out.mono ?_
        rintro e w2 ⟨rfl, hk2, hL2⟩
        have HK2 := Lib.hid (HK.out.trans hk2)
        have HL2 := Lib.hid hL2
        clear hk2 hL2
        go_wp2_with fail
        go_roundw
        case rel => exact ⟨i, j - i, x, X', V'.drop (j - i), V'.take (j - i), U' ++ Y', by rfl, by go_num, hi, by omega, hx, HLY.out, HE, HK2.out, HL2.out⟩
        case measure => simp [RowKit.intOf]; omega
end Go.Proofs.Ytlbbabojejimpaa.Sym
