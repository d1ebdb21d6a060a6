import Derived.Test.YtlbbabojejimpaaQSymMerge
/- slices' insertionSort of a range of a row: it is in order. -/
namespace Go.Proofs.Ytlbbabojejimpaa.Sym
open Go.RowKit Go.Lib Go.Shelf

set_option maxHeartbeats 8000000 in
set_option maxRecDepth 100000 in
theorem insertion_any (N g cap gn : Nat) (cb : Array Value) (f : Nat → Int) (Q : Nat → Prop) (w0 : World) (eg : ∀ args w, (callFunc gn args).run Try.prog w = .ok (.enter gn args) w) (hc : CmpIs w0 g gn cb f Q)
    (P A S : List Nat) (a b len : Nat) (w : World) (hk0 : Kept g w0 w) (hlen : P.length + A.length + S.length = len) (ha : P.length = a) (hb : a + A.length = b) (hQ : ∀ x ∈ A, Q x) (hf : len ≤ 1000000) (h : Lies N w g (P ++ (A ++ S))) :
    Calls Try.prog 60 #[.slice (some ⟨g, 0, none⟩) len cap, .int .i64 a, .int .i64 b, .func (.func gn) #[] cb] w fun e w' => e = .returned (.tuple #[]) ∧ Kept g w w' ∧ ∃ C : List Nat, C.Perm A ∧ Up f C ∧ Lies N w' g (P ++ (C ++ S)) := by
  have H := Lib.hid h
  have HC := Lib.hid hc
  have HK0 := Lib.hid hk0
  have HQ := Lib.hid hQ
  have HA := Lib.hid ha
  obtain ⟨la, hla⟩ : ∃ la, A.length = la := ⟨_, rfl⟩
  rw [hla] at hb hlen
  have HLA := Lib.hid hla
  have hbl : b ≤ len := by omega
  clear h hc hk0 hQ ha hlen hla
  go_enter Try.func60, Try.ntmps60
  go_wp2_with fail
  go_loopw [8] (fun vi wr => ∃ (i : Nat) (C : List Nat), vi = .int .i64 i ∧ a + 1 ≤ i ∧ Kept g w wr ∧ Lies N wr g (P ++ (C ++ (A.drop (i - a) ++ S))) ∧ Hid (C.Perm (A.take (i - a)) ∧ Up f C)) (fun vi _ => b - (RowKit.intOf vi).toNat)
  case atStart =>
    refine ⟨a + 1, A.take 1, by go_num, Nat.le_refl _, Kept.refl _ _, ?_, Lib.hid ⟨by rw [Nat.add_sub_cancel_left], ?_⟩⟩
    · rw [Nat.add_sub_cancel_left, ← List.append_assoc (A.take 1), List.take_append_drop]
      exact H.out
    · cases A with
      | nil => exact List.Pairwise.nil
      | cons x l => exact List.pairwise_singleton _ _
  case round =>
    obtain ⟨i, C, rfl, hi, hk, hL, hh⟩ := hrel
    rename World => wA
    have hla := HLA.out
    have haP := HA.out
    by_cases hlt : i < b
    · obtain ⟨z, hz⟩ : ∃ z, A[i - a]? = some z := ⟨_, List.getElem?_eq_getElem (by omega)⟩
      have hCl : C.length = i - a := by rw [hh.out.1.length_eq, List.length_take]; omega
      have hdr : A.drop (i - a) = z :: A.drop (i + 1 - a) := by
        obtain ⟨h1, h2⟩ := List.getElem?_eq_some_iff.1 hz
        rw [List.drop_eq_getElem_cons h1, h2, show i - a + 1 = i + 1 - a by omega]
      obtain ⟨R, hR⟩ : ∃ R, A.drop (i + 1 - a) ++ S = R := ⟨_, rfl⟩
      have hCQ : ∀ x ∈ C, Q x := fun x hx => HQ.out x (List.mem_of_mem_take (hh.out.1.mem_iff.1 hx))
      have hzQ : Q z := HQ.out z (List.mem_of_getElem? hz)
      have HL : Hid (Lies N wA g (P ++ (C.take (i - a) ++ (z :: (C.drop (i - a) ++ R))))) := Lib.hid (by
        rw [hdr, List.cons_append, hR] at hL
        rw [List.take_of_length_le (by omega), List.drop_of_length_le (by omega)]
        exact hL)
      have HCL := Lib.hid hCl
      have HCQ := Lib.hid hCQ
      have HZQ := Lib.hid hzQ
      have HK := Lib.hid hk
      have HZ := Lib.hid hz
      have HR := Lib.hid hR
      clear hCl hdr hR hCQ hzQ hL hk hz hla haP
      go_wp2_with fail
      go_loopw [9] (fun vj wr => ∃ j : Nat, vj = .int .i64 j ∧ a ≤ j ∧ j ≤ i ∧ Kept g wA wr ∧ Lies N wr g (P ++ (C.take (j - a) ++ (z :: (C.drop (j - a) ++ R)))) ∧ Hid (j = i ∨ ∃ x, C[j - a]? = some x ∧ f z < f x)) (fun vj _ => (RowKit.intOf vj).toNat)
      case atStart => exact ⟨i, by rfl, by omega, Nat.le_refl _, Kept.refl _ _, HL.out, Lib.hid (.inl rfl)⟩
      case round =>
        obtain ⟨j, rfl, hja, hji, hk2, hL2, hj2⟩ := hrel
        rename World => wB
        have hCl := HCL.out
        have haP := HA.out
        have e9 : i + 1 - a = i - a + 1 := by omega
        have out : (j = a ∨ ∃ x, C[j - a - 1]? = some x ∧ f x ≤ f z) → Hid (∃ C' : List Nat, (C'.Perm (A.take (i + 1 - a)) ∧ Up f C') ∧ P ++ (C.take (j - a) ++ (z :: (C.drop (j - a) ++ R))) = P ++ (C' ++ (A.drop (i + 1 - a) ++ S))) := fun h1 => by
          have h2 := one_up hh.out.2 (z := z) (t := j - a) (by
            rcases h1 with h | h
            · exact .inl (by omega)
            · exact .inr h) (by
            rcases hj2.out with h | ⟨x, hx, hxz⟩
            · exact .inl (by omega)
            · exact .inr ⟨x, hx, Int.le_of_lt hxz⟩)
          refine Lib.hid ⟨_, ⟨h2.1.trans ?_, h2.2⟩, ?_⟩
          · have h3 : A.take (i + 1 - a) = A.take (i - a) ++ [z] := by rw [e9, List.take_add_one, HZ.out]; rfl
            rw [h3]
            exact ((List.Perm.cons z hh.out.1).trans (List.perm_append_singleton z _).symm)
          · rw [HR.out, List.append_assoc, List.cons_append]
        have OUT := Lib.hid out
        have HK2 := Lib.hid (HK.out.trans hk2)
        have HK2' := Lib.hid hk2
        by_cases hgt : a < j
        · obtain ⟨jp, rfl⟩ : ∃ jp, j = jp + 1 := ⟨j - 1, by omega⟩
          obtain ⟨x, hx⟩ : ∃ x, C[jp - a]? = some x := ⟨_, List.getElem?_eq_getElem (by omega)⟩
          have hl : (C.take (jp + 1 - a)).length = jp + 1 - a := by rw [List.length_take]; omega
          have r1 : (P ++ (C.take (jp + 1 - a) ++ (z :: (C.drop (jp + 1 - a) ++ R))))[jp + 1]? = some z := by
            have := row_at (P := P) (B := C) (S := R) (z := z) (q := jp + 1 - a)
            rwa [hl, show P.length + (jp + 1 - a) = jp + 1 by omega] at this
          have r2 : (P ++ (C.take (jp + 1 - a) ++ (z :: (C.drop (jp + 1 - a) ++ R))))[jp]? = some x := by
            rw [List.getElem?_append_right (by omega), List.getElem?_append_left (by omega), show jp - P.length = jp - a by omega, List.getElem?_take_of_lt (by omega)]
            exact hx
          have c1 : wB.cell? ⟨g, jp + 1, none⟩ = some (.int .i64 z) := hL2.cell r1
          have c2 : wB.cell? ⟨g, jp, none⟩ = some (.int .i64 x) := hL2.cell r2
          have f1 := hL2.free (jp + 1)
          have f2 := hL2.free jp
          obtain ⟨d, hd⟩ : ∃ d, Lib.compareInt (f z) (f x) = d := ⟨_, rfl⟩
          have hneg := compare_neg (f z) (f x)
          rw [hd] at hneg
          have hcall : Hid (∀ n, Calls Try.prog gn (#[.int .i64 z, .int .i64 x] ++ cb) (wB.drewN n) fun e w' => e = .returned (.int .i64 d) ∧ ∃ q, w' = (wB.drewN n).drewN q) := Lib.hid fun n => by
            have := HC.out (wB.drewN n) (kept_drewN (HK0.out.trans HK2.out) n) z x HZQ.out (HCQ.out x (List.mem_of_getElem? hx))
            rwa [hd] at this
          have HS : Hid (∀ m, Lies N (((wB.drewN m).setCell ⟨g, jp + 1, none⟩ (enc x)).setCell ⟨g, jp, none⟩ (enc z)) g (P ++ (C.take (jp - a) ++ (z :: (C.drop (jp - a) ++ R))))) := Lib.hid fun m => by
            have := ((hL2.drewN m).set (jp + 1) x).set jp z
            rw [show jp + 1 - a = jp - a + 1 by omega] at this
            rwa [step_back hx (by omega)] at this
          have HKS : Hid (∀ m, Kept g wA (((wB.drewN m).setCell ⟨g, jp + 1, none⟩ (enc x)).setCell ⟨g, jp, none⟩ (enc z))) := Lib.hid fun m => ((kept_drewN HK2'.out m).setCell (Or.inl rfl) _).setCell (Or.inl rfl) _
          have k0 : (0 : Int) ≤ (jp : Int) := by omega
          have k1 : (jp : Int) < (len : Int) := by omega
          have k2 : (0 : Int) ≤ (jp : Int) + 1 := by omega
          have k3 : (jp : Int) + 1 < (len : Int) := by omega
          have e5 : ((jp : Int) + 1).toNat = jp + 1 := by omega
          have e6 : (((jp + 1 : Nat) : Int)) - 1 = (jp : Int) := by omega
          have e7 : ((jp : Int) + 1) - 1 = (jp : Int) := by omega
          have k4 : (a : Int) < (jp : Int) + 1 := by omega
          have HX := Lib.hid hx
          have HN := Lib.hid hneg
          have HL2 := Lib.hid hL2
          clear hL2 hk2 hx hl r1 r2 hd hneg out hCl haP e9
          by_cases hr0 : d < 0
          · have hr1 : decide (d < 0) = true := by simp; omega
            go_wp2_with fail
            go_quiet (first | (go_at_fn gn; refine Calls.quiet_of (hcall.out _)))
            go_wp2_with fail
            have c1' : (wB.drewN nq).cell? ⟨g, jp + 1, none⟩ = some (.int .i64 z) := c1
            have c2' : (wB.drewN nq).cell? ⟨g, jp, none⟩ = some (.int .i64 x) := c2
            have f1' : (wB.drewN nq).frozen? ⟨g, jp + 1, none⟩ = false := f1
            have f2' : (wB.drewN nq).frozen? ⟨g, jp, none⟩ = false := f2
            have HS' := Lib.hid (HS.out nq)
            have HKS' := Lib.hid (HKS.out nq)
            clear c1 c2 f1 f2 HS HKS hcall
            generalize wB.drewN nq = wD at c1' c2' f1' f2' HS' HKS' ⊢
            go_region
            go_wp2_with fail
            go_roundw
            case rel => exact ⟨jp, by go_num, by omega, by omega, HKS'.out.drew, HS'.out.drew, Lib.hid (.inr ⟨x, HX.out, HN.out.1 hr0⟩)⟩
            case measure => simp [RowKit.intOf]
          · have hr1 : decide (d < 0) = false := by simp; omega
            have HO := OUT.out (.inr ⟨x, by rw [show jp + 1 - a - 1 = jp - a by omega]; exact HX.out, by have := HN.out; omega⟩)
            go_wp2_with fail
            go_quiet (first | (go_at_fn gn; refine Calls.quiet_of (hcall.out _)))
            go_wp2_with fail
            obtain ⟨C', hC', hrow⟩ := HO.out
            go_roundw
            case rel => exact ⟨i + 1, C', by go_num, by omega, kept_drewN HK2.out _, by rw [← hrow]; exact HL2.out.drewN _, Lib.hid hC'⟩
            case measure => simp [RowKit.intOf]; omega
        · obtain rfl : j = a := by omega
          have HO := OUT.out (.inl rfl)
          have hgz : decide ((j : Int) > (j : Int)) = false := by simp
          have HL2 := Lib.hid hL2
          clear hL2 hk2 out hCl haP e9
          go_wp2_with fail
          go_quiet (fail)
          go_wp2_with fail
          obtain ⟨C', hC', hrow⟩ := HO.out
          go_roundw
          case rel => exact ⟨i + 1, C', by go_num, by omega, kept_drewN HK2.out _, by rw [← hrow]; exact HL2.out.drewN _, Lib.hid hC'⟩
          case measure => simp [RowKit.intOf]; omega
    · have HK := Lib.hid hk
      have HE : Hid (C.Perm A ∧ Up f C ∧ Lies N wA g (P ++ (C ++ S))) := Lib.hid (by
        obtain ⟨h1, h2⟩ := hh.out
        rw [List.take_of_length_le (by omega)] at h1
        rw [List.drop_of_length_le (by omega), List.nil_append] at hL
        exact ⟨h1, h2, hL⟩)
      clear hk hL hla haP
      go_wp2_with fail
      go_end0
      exact ⟨rfl, HK.out, C, HE.out⟩
end Go.Proofs.Ytlbbabojejimpaa.Sym
