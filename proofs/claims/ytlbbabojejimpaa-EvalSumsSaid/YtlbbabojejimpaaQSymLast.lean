import Derived.Test.YtlbbabojejimpaaQSymMerge
/- slices' symMerge of a range and one thing. -/
namespace Go.Proofs.Ytlbbabojejimpaa.Sym
open Go.RowKit Go.Lib Go.Shelf

set_option maxHeartbeats 8000000 in
set_option maxRecDepth 100000 in
theorem merge_last (N g cap gn : Nat) (cb : Array Value) (f : Nat → Int) (Q : Nat → Prop) (w0 : World) (eg : ∀ args w, (callFunc gn args).run Try.prog w = .ok (.enter gn args) w) (hc : CmpIs w0 g gn cb f Q)
    (P A S : List Nat) (z a m len : Nat) (w : World) (hk0 : Kept g w0 w) (hlen : P.length + A.length + 1 + S.length = len) (ha : P.length = a) (hm : a + A.length = m) (h2 : 2 ≤ A.length) (hA : Up f A) (hQ : ∀ x ∈ z :: A, Q x) (hf : len ≤ 1000000) (h : Lies N w g (P ++ (A ++ (z :: S)))) :
    Calls Try.prog 61 #[.slice (some ⟨g, 0, none⟩) len cap, .int .i64 a, .int .i64 m, .int .i64 ((m + 1 : Nat) : Int), .func (.func gn) #[] cb] w fun e w' => e = .returned (.tuple #[]) ∧ Kept g w w' ∧ ∃ C : List Nat, C.Perm (z :: A) ∧ Up f C ∧ Lies N w' g (P ++ (C ++ S)) := by
  have H := Lib.hid h
  have HC := Lib.hid hc
  have HK0 := Lib.hid hk0
  have HQ := Lib.hid hQ
  have HUA := Lib.hid hA
  have HA := Lib.hid ha
  obtain ⟨b, hb⟩ : ∃ b, m + 1 = b := ⟨_, rfl⟩
  obtain ⟨la, hla⟩ : ∃ la, A.length = la := ⟨_, rfl⟩
  rw [hb]
  rw [hla] at hm hlen h2
  have HLA := Lib.hid hla
  have e0 : ((m : Int) - (a : Int) == 1) = false := by simp; omega
  have e1 : (b : Int) - (m : Int) = 1 := by omega
  have hml : (m : Int) < (len : Int) := by omega
  have hm0 : (0 : Int) ≤ (m : Int) := by omega
  clear h hc hk0 hQ hA ha hlen hla
  go_enter Try.func61, Try.ntmps61
  go_wp2_with fail
  go_loopw [14, 15] (fun vi vj wr => ∃ (i j : Nat), vi = .int .i64 i ∧ vj = .int .i64 j ∧ a ≤ i ∧ i ≤ j ∧ j ≤ m ∧ Kept g w wr ∧ Lies N wr g (P ++ (A ++ (z :: S))) ∧ Hid ((i = a ∨ ∃ x, A[i - a - 1]? = some x ∧ f x ≤ f z) ∧ (j = m ∨ ∃ x, A[j - a]? = some x ∧ f z < f x))) (fun vi vj _ => (RowKit.intOf vj).toNat - (RowKit.intOf vi).toNat)
  case atStart => exact ⟨a, m, by rfl, by rfl, by omega, by omega, by omega, Kept.refl _ _, H.out, Lib.hid ⟨.inl rfl, .inl rfl⟩⟩
  case round =>
    obtain ⟨i, j, rfl, rfl, hi, hij, hj, hk, hL, hh⟩ := hrel
    rename World => wA
    have hla := HLA.out
    have haP := HA.out
    by_cases hlt : i < j
    · obtain ⟨c, hcd⟩ : ∃ c, (i + j) / 2 = c := ⟨_, rfl⟩
      have ec : ((i : Int) + (j : Int)) / 2 = (c : Int) := by omega
      have hci : i ≤ c ∧ c < j := by omega
      obtain ⟨x, hx⟩ : ∃ x, A[c - a]? = some x := ⟨_, List.getElem?_eq_getElem (by omega)⟩
      have hrow : (P ++ (A ++ (z :: S)))[c]? = some x := by
        rw [List.getElem?_append_right (by omega), List.getElem?_append_left (by omega), show c - P.length = c - a by omega]
        exact hx
      have hrow0 : (P ++ (A ++ (z :: S)))[m]? = some z := by
        rw [List.getElem?_append_right (by omega), List.getElem?_append_right (by omega), show m - P.length - A.length = 0 by omega]
        rfl
      have c1 := hL.cell hrow
      have c2 := hL.cell hrow0
      obtain ⟨r, hr⟩ : ∃ r, Lib.compareInt (f z) (f x) = r := ⟨_, rfl⟩
      have hneg := compare_neg (f z) (f x)
      rw [hr] at hneg
      have hcall : Hid (∀ n, Calls Try.prog gn (#[.int .i64 z, .int .i64 x] ++ cb) (wA.drewN n) fun e w' => e = .returned (.int .i64 r) ∧ ∃ q, w' = (wA.drewN n).drewN q) := Lib.hid fun n => by
        have := HC.out (wA.drewN n) (kept_drewN (HK0.out.trans hk) n) z x (HQ.out z List.mem_cons_self) (HQ.out x (List.mem_cons_of_mem _ (List.mem_of_getElem? hx)))
        rwa [hr] at this
      have HK := Lib.hid hk
      have HL := Lib.hid hL
      have k0 : (0 : Int) ≤ (c : Int) := by omega
      have k1 : (c : Int) < (len : Int) := by omega
      have HX := Lib.hid hx
      have HN := Lib.hid hneg
      clear hk hL hrow hrow0 hr hneg hx hla haP
      by_cases hr0 : r < 0
      · have HU : Hid ((i = a ∨ ∃ x, A[i - a - 1]? = some x ∧ f x ≤ f z) ∧ (c = m ∨ ∃ x, A[c - a]? = some x ∧ f z < f x)) := Lib.hid ⟨hh.out.1, .inr ⟨x, HX.out, HN.out.1 hr0⟩⟩
        have hr1 : decide (r < 0) = true := by simp; omega
        clear hh
        go_wp2_with fail
        go_quiet (first | (go_at_fn gn; refine Calls.quiet_of (hcall.out _)))
        go_wp2_with fail
        go_roundw
        case rel => exact ⟨i, c, by rfl, by rfl, by omega, by omega, by omega, kept_drewN HK.out _, HL.out.drewN _, HU⟩
        case measure => simp [RowKit.intOf]; omega
      · have HU : Hid ((c + 1 = a ∨ ∃ x, A[c + 1 - a - 1]? = some x ∧ f x ≤ f z) ∧ (j = m ∨ ∃ x, A[j - a]? = some x ∧ f z < f x)) := Lib.hid ⟨.inr ⟨x, by rw [show c + 1 - a - 1 = c - a by omega]; exact HX.out, by have := HN.out; omega⟩, hh.out.2⟩
        have hr1 : decide (r < 0) = false := by simp; omega
        clear hh
        go_wp2_with fail
        go_quiet (first | (go_at_fn gn; refine Calls.quiet_of (hcall.out _)))
        go_wp2_with fail
        go_roundw
        case rel => exact ⟨c + 1, j, by go_num, by rfl, by omega, by omega, hj, kept_drewN HK.out _, HL.out.drewN _, HU⟩
        case measure => simp [RowKit.intOf]; omega
    · obtain rfl : i = j := by omega
      obtain ⟨t, ht⟩ : ∃ t, i - a = t := ⟨_, rfl⟩
      have hit : i = a + t := by omega
      have HONE := Lib.hid (one_up HUA.out (z := z) (t := t) (by
          rcases hh.out.1 with h | ⟨x, hx, hz⟩
          · exact .inl (by omega)
          · exact .inr ⟨x, by rw [← ht]; exact hx, hz⟩) (by
          rcases hh.out.2 with h | ⟨x, hx, hz⟩
          · exact .inl (by omega)
          · exact .inr ⟨x, by rw [← ht]; exact hx, Int.le_of_lt hz⟩))
      have HK := Lib.hid hk
      have HL : Hid (Lies N wA g (P ++ (A.take la ++ (z :: (A.drop la ++ S))))) := Lib.hid (by rw [List.take_of_length_le (by omega), List.drop_of_length_le (by omega)]; exact hL)
      have htl : t ≤ la := by omega
      clear hk hL hh hlt
      go_wp2_with fail
      go_loopw [17] (fun vk wr => ∃ k : Nat, vk = .int .i64 k ∧ a + t ≤ k ∧ k ≤ m ∧ Kept g wA wr ∧ Lies N wr g (P ++ (A.take (k - a) ++ (z :: (A.drop (k - a) ++ S))))) (fun vk _ => (RowKit.intOf vk).toNat)
      case atStart => exact ⟨m, by rfl, by omega, by omega, Kept.refl _ _, by rw [show m - a = la by omega]; exact HL.out⟩
      case round =>
        obtain ⟨k, rfl, hka, hkt, hk2, hL2⟩ := hrel
        rename World => wB
        by_cases hlt : a + t < k
        · obtain ⟨kp, rfl⟩ : ∃ kp, k = kp + 1 := ⟨k - 1, by omega⟩
          obtain ⟨y, hy⟩ : ∃ y, A[kp - a]? = some y := ⟨_, List.getElem?_eq_getElem (by omega)⟩
          have hl : (A.take (kp + 1 - a)).length = kp + 1 - a := by rw [List.length_take]; omega
          have hl' : (A.take (kp - a)).length = kp - a := by rw [List.length_take]; omega
          have r1 : (P ++ (A.take (kp + 1 - a) ++ (z :: (A.drop (kp + 1 - a) ++ S))))[kp + 1]? = some z := by
            have := row_at (P := P) (B := A) (S := S) (z := z) (q := kp + 1 - a)
            rwa [hl, show P.length + (kp + 1 - a) = kp + 1 by omega] at this
          have r2 : (P ++ (A.take (kp + 1 - a) ++ (z :: (A.drop (kp + 1 - a) ++ S))))[kp]? = some y := by
            rw [List.getElem?_append_right (by omega), List.getElem?_append_left (by omega), show kp - P.length = kp - a by omega, List.getElem?_take_of_lt (by omega)]
            exact hy
          have c1 : wB.cell? ⟨g, kp + 1, none⟩ = some (.int .i64 z) := hL2.cell r1
          have c2 : wB.cell? ⟨g, kp, none⟩ = some (.int .i64 y) := hL2.cell r2
          have f1 := hL2.free (kp + 1)
          have f2 := hL2.free kp
          have HS := Lib.hid (show Lies N ((wB.setCell ⟨g, kp + 1, none⟩ (enc y)).setCell ⟨g, kp, none⟩ (enc z)) g (P ++ (A.take (kp - a) ++ (z :: (A.drop (kp - a) ++ S)))) from by
            have := (hL2.set (kp + 1) y).set kp z
            rw [show kp + 1 - a = kp - a + 1 by omega] at this
            rwa [step_back hy (by omega)] at this)
          have HK2 := Lib.hid (show Kept g wA ((wB.setCell ⟨g, kp + 1, none⟩ (enc y)).setCell ⟨g, kp, none⟩ (enc z)) from (hk2.setCell (Or.inl rfl) _).setCell (Or.inl rfl) _)
          have k0 : (0 : Int) ≤ (kp : Int) := by omega
          have k1 : (kp : Int) < (len : Int) := by omega
          have k2 : (0 : Int) ≤ (kp : Int) + 1 := by omega
          have k3 : (kp : Int) + 1 < (len : Int) := by omega
          have e5 : ((kp : Int) + 1).toNat = kp + 1 := by omega
          have e6 : (((kp + 1 : Nat) : Int)) - 1 = (kp : Int) := by omega
          have e7 : ((kp : Int) + 1) - 1 = (kp : Int) := by omega
          have k4 : (kp : Int) + 1 > ((a + t : Nat) : Int) := by omega
          clear hL2 hk2 hy hl hl' r1 r2
          go_wp2_with fail
          go_region
          go_wp2_with fail
          go_roundw
          case rel => exact ⟨kp, by go_num, by omega, by omega, HK2.out.drew, HS.out.drew⟩
          case measure => simp [RowKit.intOf]
        · obtain rfl : k = a + t := by omega
          have HK2 := Lib.hid (HK.out.trans hk2)
          have HL2 : Hid (Lies N wB g (P ++ ((A.take t ++ (z :: A.drop t)) ++ S))) := Lib.hid (by rw [Nat.add_sub_cancel_left] at hL2; rw [List.append_assoc, List.cons_append]; exact hL2)
          clear hk2 hL2
          go_wp2_with fail
          refine bodyPost_ret (results_none rfl _ _ _) rfl ?_
          exact ⟨rfl, HK2.out, _, HONE.out.1, HONE.out.2, HL2.out⟩
end Go.Proofs.Ytlbbabojejimpaa.Sym
