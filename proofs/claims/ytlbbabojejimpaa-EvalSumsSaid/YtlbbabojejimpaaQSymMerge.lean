import Derived.Test.YtlbbabojejimpaaQSymRot
import Derived.Deep.QuietTactic
import Derived.BigQuiet
import Derived.Lib.Small
import Derived.Shelf.Abstract
/- slices' symMerge of a row: two ranges in order become one. -/
namespace Go.Proofs.Ytlbbabojejimpaa.Sym
open Go.RowKit Go.Lib Go.Shelf

theorem compare_neg (a b : Int) : Lib.compareInt a b < 0 ↔ a < b := by
  unfold Lib.compareInt
  split
  · rename_i h; simp [h]
  · rename_i h
    split <;> simp [h]
/-- What is asked of the function that compares. -/
def CmpIs (w0 : World) (g gn : Nat) (cb : Array Value) (f : Nat → Int) (Q : Nat → Prop) : Prop := ∀ W, Kept g w0 W → ∀ x y : Nat, Q x → Q y → Calls Try.prog gn (#[.int .i64 x, .int .i64 y] ++ cb) W fun e w' => e = .returned (.int .i64 (Lib.compareInt (f x) (f y))) ∧ ∃ q, w' = W.drewN q
theorem kept_drewN {R : Nat} {a w : World} (h : Kept R a w) (n : Nat) : Kept R a (w.drewN n) := ⟨h.os, h.tape, h.output, h.size, h.block⟩
theorem two_sets {P R : List Nat} {z y k : Nat} (hk : P.length = k) : ((P ++ (z :: (y :: R))).set k y).set (k + 1) z = P ++ (y :: (z :: R)) := by
  subst hk
  rw [List.set_append_right _ _ (Nat.le_refl _), Nat.sub_self, List.set_cons_zero, List.set_append_right _ _ (by omega), Nat.add_sub_cancel_left]
  rfl
theorem two_sets' {P R : List Nat} {z y k : Nat} (hk : P.length = k) : ((P ++ (y :: (z :: R))).set (k + 1) y).set k z = P ++ (z :: (y :: R)) := by
  subst hk
  rw [List.set_append_right _ _ (by omega), Nat.add_sub_cancel_left, List.set_append_right _ _ (Nat.le_refl _), Nat.sub_self]
  rfl
/-- One thing goes a place on. -/
theorem step_on {P B S : List Nat} {z y q k : Nat} (hy : B[q]? = some y) (hk : P.length + q = k) : ((P ++ (B.take q ++ (z :: (B.drop q ++ S)))).set k y).set (k + 1) z = P ++ (B.take (q + 1) ++ (z :: (B.drop (q + 1) ++ S))) := by
  obtain ⟨hq, he⟩ := List.getElem?_eq_some_iff.1 hy
  have hl : (B.take q).length = q := by rw [List.length_take]; omega
  have hd : B.drop q = y :: B.drop (q + 1) := by rw [List.drop_eq_getElem_cons hq, he]
  have ht : B.take (q + 1) = B.take q ++ [y] := by rw [List.take_add_one, hy]; rfl
  rw [hd, ht, ← List.append_assoc, List.cons_append, two_sets (by rw [List.length_append, hl, hk])]
  simp
theorem step_back {P A S : List Nat} {z y q k : Nat} (hy : A[q]? = some y) (hk : P.length + q = k) : ((P ++ (A.take (q + 1) ++ (z :: (A.drop (q + 1) ++ S)))).set (k + 1) y).set k z = P ++ (A.take q ++ (z :: (A.drop q ++ S))) := by
  obtain ⟨hq, he⟩ := List.getElem?_eq_some_iff.1 hy
  have hl : (A.take q).length = q := by rw [List.length_take]; omega
  have hd : A.drop q = y :: A.drop (q + 1) := by rw [List.drop_eq_getElem_cons hq, he]
  have ht : A.take (q + 1) = A.take q ++ [y] := by rw [List.take_add_one, hy]; rfl
  have e : P ++ (A.take q ++ [y] ++ (z :: (A.drop (q + 1) ++ S))) = (P ++ A.take q) ++ (y :: (z :: (A.drop (q + 1) ++ S))) := by simp
  rw [hd, ht, e, two_sets' (by rw [List.length_append, hl, hk])]
  simp
theorem row_at {P B S : List Nat} {z q : Nat} : (P ++ (B.take q ++ (z :: (B.drop q ++ S))))[P.length + (B.take q).length]? = some z := by
  rw [List.getElem?_append_right (by omega), Nat.add_sub_cancel_left, List.getElem?_append_right (Nat.le_refl _), Nat.sub_self]
  rfl
theorem row_next {P B S : List Nat} {z y q : Nat} (hy : B[q]? = some y) : (P ++ (B.take q ++ (z :: (B.drop q ++ S))))[P.length + q + 1]? = some y := by
  obtain ⟨hq, he⟩ := List.getElem?_eq_some_iff.1 hy
  have hl : (B.take q).length = q := by rw [List.length_take]; omega
  have hd : B.drop q = y :: B.drop (q + 1) := by rw [List.drop_eq_getElem_cons hq, he]
  rw [List.getElem?_append_right (by omega), List.getElem?_append_right (by omega), hl, hd, show P.length + q + 1 - P.length - q = 1 by omega]
  rfl
theorem one_up {f : Nat → Int} {B : List Nat} {z t : Nat} (hB : Up f B) (h1 : t = 0 ∨ ∃ x, B[t - 1]? = some x ∧ f x ≤ f z) (h2 : t ≥ B.length ∨ ∃ x, B[t]? = some x ∧ f z ≤ f x) : (B.take t ++ (z :: B.drop t)).Perm (z :: B) ∧ Up f (B.take t ++ (z :: B.drop t)) := by
  constructor
  · have := (List.perm_middle (a := z) (l₁ := B.take t) (l₂ := B.drop t))
    rwa [List.take_append_drop] at this
  · refine up_append f (hB.take f t) (List.pairwise_cons.2 ⟨fun y hy => ?_, hB.drop f t⟩) fun x hx y hy => ?_
    · rcases h2 with h | ⟨u, hu, huz⟩
      · rw [List.drop_of_length_le h] at hy; cases hy
      · have := up_first f hB hu y hy
        omega
    · rcases List.mem_cons.1 hy with rfl | hy
      · rcases h1 with rfl | ⟨u, hu, huz⟩
        · simp at hx
        · by_cases h0 : t = 0
          · subst h0; simp at hx
          · have := up_last f hB hu x (by rwa [show t - 1 + 1 = t by omega])
            omega
      · exact up_take_drop f hB t x hx y hy

set_option maxHeartbeats 8000000 in
set_option maxRecDepth 100000 in
theorem merge_one (N g cap gn : Nat) (cb : Array Value) (f : Nat → Int) (Q : Nat → Prop) (w0 : World) (eg : ∀ args w, (callFunc gn args).run Try.prog w = .ok (.enter gn args) w) (hc : CmpIs w0 g gn cb f Q)
    (P B S : List Nat) (z a b len : Nat) (w : World) (hk0 : Kept g w0 w) (hlen : P.length + 1 + B.length + S.length = len) (ha : P.length = a) (hb : a + 1 + B.length = b) (hB : Up f B) (hQ : ∀ x ∈ z :: B, Q x) (hf : len ≤ 1000000) (h : Lies N w g (P ++ (z :: (B ++ S)))) :
    Calls Try.prog 61 #[.slice (some ⟨g, 0, none⟩) len cap, .int .i64 a, .int .i64 ((a + 1 : Nat) : Int), .int .i64 b, .func (.func gn) #[] cb] w fun e w' => e = .returned (.tuple #[]) ∧ Kept g w w' ∧ ∃ C : List Nat, C.Perm ([z] ++ B) ∧ Up f C ∧ Lies N w' g (P ++ (C ++ S)) := by
  have H := Lib.hid h
  have HC := Lib.hid hc
  have HK0 := Lib.hid hk0
  have HQ := Lib.hid hQ
  have HB := Lib.hid hB
  have HA := Lib.hid ha
  obtain ⟨m, hm⟩ : ∃ m, a + 1 = m := ⟨_, rfl⟩
  obtain ⟨lb, hlb⟩ : ∃ lb, B.length = lb := ⟨_, rfl⟩
  rw [hm]
  rw [hlb] at hb hlen
  have HLB := Lib.hid hlb
  have e1 : (m : Int) - (a : Int) = 1 := by omega
  have hbl : b ≤ len := by omega
  have hal : (a : Int) < (len : Int) := by omega
  have ha0 : (0 : Int) ≤ (a : Int) := by omega
  clear h hc hk0 hQ hB ha hlen hlb
  go_enter Try.func61, Try.ntmps61
  go_wp2_with fail
  go_loopw [10, 11] (fun vi vj wr => ∃ (i j : Nat), vi = .int .i64 i ∧ vj = .int .i64 j ∧ m ≤ i ∧ i ≤ j ∧ j ≤ b ∧ Kept g w wr ∧ Lies N wr g (P ++ (z :: (B ++ S))) ∧ Hid ((i = m ∨ ∃ x, B[i - m - 1]? = some x ∧ f x < f z) ∧ (j = b ∨ ∃ x, B[j - m]? = some x ∧ f z ≤ f x))) (fun vi vj _ => (RowKit.intOf vj).toNat - (RowKit.intOf vi).toNat)
  case atStart => exact ⟨m, b, by rfl, by rfl, by omega, by omega, by omega, Kept.refl _ _, H.out, Lib.hid ⟨.inl rfl, .inl rfl⟩⟩
  case round =>
    obtain ⟨i, j, rfl, rfl, hi, hij, hj, hk, hL, hh⟩ := hrel
    rename World => wA
    have hlb := HLB.out
    have haP := HA.out
    by_cases hlt : i < j
    · obtain ⟨c, hcd⟩ : ∃ c, (i + j) / 2 = c := ⟨_, rfl⟩
      have ec : ((i : Int) + (j : Int)) / 2 = (c : Int) := by omega
      have hci : i ≤ c ∧ c < j := by omega
      obtain ⟨x, hx⟩ : ∃ x, B[c - m]? = some x := ⟨_, List.getElem?_eq_getElem (by omega)⟩
      have hrow : (P ++ (z :: (B ++ S)))[c]? = some x := by
        rw [List.getElem?_append_right (by omega), show c - P.length = (c - m) + 1 by omega, List.getElem?_cons_succ, List.getElem?_append_left (by omega)]
        exact hx
      have hrow0 : (P ++ (z :: (B ++ S)))[a]? = some z := by
        rw [List.getElem?_append_right (by omega), show a - P.length = 0 by omega]
        rfl
      have c1 := hL.cell hrow
      have c2 := hL.cell hrow0
      obtain ⟨r, hr⟩ : ∃ r, Lib.compareInt (f x) (f z) = r := ⟨_, rfl⟩
      have hneg := compare_neg (f x) (f z)
      rw [hr] at hneg
      have hcall : Hid (∀ n, Calls Try.prog gn (#[.int .i64 x, .int .i64 z] ++ cb) (wA.drewN n) fun e w' => e = .returned (.int .i64 r) ∧ ∃ q, w' = (wA.drewN n).drewN q) := Lib.hid fun n => by
        have := HC.out (wA.drewN n) (kept_drewN (HK0.out.trans hk) n) x z (HQ.out x (List.mem_cons_of_mem _ (List.mem_of_getElem? hx))) (HQ.out z List.mem_cons_self)
        rwa [hr] at this
      have HK := Lib.hid hk
      have HL := Lib.hid hL
      have k0 : (0 : Int) ≤ (c : Int) := by omega
      have k1 : (c : Int) < (len : Int) := by omega
      have HX := Lib.hid hx
      have HN := Lib.hid hneg
      clear hk hL hrow hrow0 hr hneg hx hlb haP
      by_cases hr0 : r < 0
      · have HU : Hid ((c + 1 = m ∨ ∃ x, B[c + 1 - m - 1]? = some x ∧ f x < f z) ∧ (j = b ∨ ∃ x, B[j - m]? = some x ∧ f z ≤ f x)) := Lib.hid ⟨.inr ⟨x, by rw [show c + 1 - m - 1 = c - m by omega]; exact HX.out, HN.out.1 hr0⟩, hh.out.2⟩
        clear hh
        go_wp2_with fail
        go_quiet (first | (go_at_fn gn; refine Calls.quiet_of (hcall.out _)))
        go_wp2_with fail
        go_roundw
        case rel => exact ⟨c + 1, j, by go_num, by rfl, by omega, by omega, hj, kept_drewN HK.out _, HL.out.drewN _, HU⟩
        case measure => simp [RowKit.intOf]; omega
      · have HU : Hid ((i = m ∨ ∃ x, B[i - m - 1]? = some x ∧ f x < f z) ∧ (c = b ∨ ∃ x, B[c - m]? = some x ∧ f z ≤ f x)) := Lib.hid ⟨hh.out.1, .inr ⟨x, HX.out, by have := HN.out; omega⟩⟩
        clear hh
        go_wp2_with fail
        go_quiet (first | (go_at_fn gn; refine Calls.quiet_of (hcall.out _)))
        go_wp2_with fail
        go_roundw
        case rel => exact ⟨i, c, by rfl, by rfl, by omega, by omega, by omega, kept_drewN HK.out _, HL.out.drewN _, HU⟩
        case measure => simp [RowKit.intOf]; omega
    · obtain rfl : i = j := by omega
      obtain ⟨t, ht⟩ : ∃ t, i - m = t := ⟨_, rfl⟩
      have hit : i = a + 1 + t := by omega
      have HONE := Lib.hid (one_up HB.out (z := z) (t := t) (by
          rcases hh.out.1 with h | ⟨x, hx, hz⟩
          · exact .inl (by omega)
          · exact .inr ⟨x, by rw [← ht]; exact hx, Int.le_of_lt hz⟩) (by
          rcases hh.out.2 with h | ⟨x, hx, hz⟩
          · exact .inl (by omega)
          · exact .inr ⟨x, by rw [← ht]; exact hx, hz⟩))
      have HK := Lib.hid hk
      have HL : Hid (Lies N wA g (P ++ (B.take 0 ++ (z :: (B.drop 0 ++ S))))) := Lib.hid hL
      have htl : t ≤ lb := by omega
      clear hk hL hh hlt
      go_wp2_with fail
      go_loopw [13] (fun vk wr => ∃ k : Nat, vk = .int .i64 k ∧ a ≤ k ∧ k ≤ a + t ∧ Kept g wA wr ∧ Lies N wr g (P ++ (B.take (k - a) ++ (z :: (B.drop (k - a) ++ S))))) (fun vk _ => a + t - (RowKit.intOf vk).toNat)
      case atStart => exact ⟨a, by rfl, by omega, by omega, Kept.refl _ _, by rw [Nat.sub_self]; exact HL.out⟩
      case round =>
        obtain ⟨k, rfl, hka, hkt, hk2, hL2⟩ := hrel
        rename World => wB
        have ei : (i : Int) - 1 = ((a + t : Nat) : Int) := by omega
        by_cases hlt : k < a + t
        · obtain ⟨y, hy⟩ : ∃ y, B[k - a]? = some y := ⟨_, List.getElem?_eq_getElem (by omega)⟩
          have hl : (B.take (k - a)).length = k - a := by rw [List.length_take]; omega
          have r1 : (P ++ (B.take (k - a) ++ (z :: (B.drop (k - a) ++ S))))[k]? = some z := by
            have := row_at (P := P) (B := B) (S := S) (z := z) (q := k - a)
            rwa [hl, show P.length + (k - a) = k by omega] at this
          have r2 : (P ++ (B.take (k - a) ++ (z :: (B.drop (k - a) ++ S))))[k + 1]? = some y := by
            have := row_next (P := P) (S := S) (z := z) hy
            rwa [show P.length + (k - a) + 1 = k + 1 by omega] at this
          have c1 := hL2.cell r1
          have c2 := hL2.cell r2
          have f1 := hL2.free k
          have f2 := hL2.free (k + 1)
          have HS := Lib.hid (show Lies N ((wB.setCell ⟨g, k, none⟩ (enc y)).setCell ⟨g, k + 1, none⟩ (enc z)) g (P ++ (B.take (k + 1 - a) ++ (z :: (B.drop (k + 1 - a) ++ S)))) from by
            have := (hL2.set k y).set (k + 1) z
            rwa [step_on hy (by omega), show k - a + 1 = k + 1 - a by omega] at this)
          have HK2 := Lib.hid (show Kept g wA ((wB.setCell ⟨g, k, none⟩ (enc y)).setCell ⟨g, k + 1, none⟩ (enc z)) from (hk2.setCell (Or.inl rfl) _).setCell (Or.inl rfl) _)
          have k0 : (0 : Int) ≤ (k : Int) := by omega
          have k1 : (k : Int) < (len : Int) := by omega
          have k2 : (0 : Int) ≤ (k : Int) + 1 := by omega
          have k3 : (k : Int) + 1 < (len : Int) := by omega
          have e5 : ((k : Int) + 1).toNat = k + 1 := by omega
          have k4 : (k : Int) < ((a + t : Nat) : Int) := by omega
          clear hL2 hk2 hy hl r1 r2
          go_wp2_with fail
          go_region
          go_wp2_with fail
          go_roundw
          case rel => exact ⟨k + 1, by go_num, by omega, by omega, HK2.out.drew, HS.out.drew⟩
          case measure => simp [RowKit.intOf]; omega
        · obtain rfl : k = a + t := by omega
          have HK2 := Lib.hid (HK.out.trans hk2)
          have HL2 : Hid (Lies N wB g (P ++ ((B.take t ++ (z :: B.drop t)) ++ S))) := Lib.hid (by rw [Nat.add_sub_cancel_left] at hL2; rw [List.append_assoc, List.cons_append]; exact hL2)
          clear hk2 hL2
          go_wp2_with fail
          refine bodyPost_ret (results_none rfl _ _ _) rfl ?_
          exact ⟨rfl, HK2.out, _, HONE.out.1, HONE.out.2, HL2.out⟩
end Go.Proofs.Ytlbbabojejimpaa.Sym
