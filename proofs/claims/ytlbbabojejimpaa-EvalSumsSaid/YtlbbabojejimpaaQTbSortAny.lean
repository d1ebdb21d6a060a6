import Derived.Test.YtlbbabojejimpaaQTbSort
import Derived.Test.YtlbbabojejimpaaQSymStable
/- board: sortBy: numbers of pieces, however many, in the order of their places. -/
namespace Go.Proofs.Ytlbbabojejimpaa
open Go.RowKit Go.Lib Go.Shelf Go.Sort

set_option maxHeartbeats 2000000 in
theorem bsort_any (t : Tb) (xs : List Cd) (ps : List Pc) (ids : List Nat) (g cap B : Nat) (cur : Array Value) (w : World) (hT : TabIn w t xs ps) (hids : ∀ i ∈ ids, i < ps.length) (hne : ids ≠ []) (hlen : ids.length ≤ 1000000) (hB : w.cell? ⟨B, 1, none⟩ = some (.slice t.qp t.np t.cp)) (hBg : B ≠ g)
    (hpg : ∀ a, t.qp = some a → a.block ≠ g) (hg : w.heap[g]? = some (.cells cur 3 (0, 0))) (hcur : ids.length ≤ cur.size) (htake : cur.toList.take ids.length = ids.map idV) :
    Calls Try.prog 43 #[.slice (some ⟨g, 0, none⟩) ids.length cap, keyV B] w fun e w' => e = .returned (.tuple #[]) ∧ Kept g w w' ∧
      ∃ (out : List Nat) (cur' : Array Value), out.Perm ids ∧ (∀ i j, i < j → j < out.length → plI ps (out.getD i 0) ≤ plI ps (out.getD j 0)) ∧ w'.heap[g]? = some (.cells cur' 3 (0, 0)) ∧ cur'.size = cur.size ∧ cur'.toList.take ids.length = out.map idV := by
  obtain ⟨K, hKs⟩ : ∃ K, w.heap.size = K := ⟨_, rfl⟩
  obtain ⟨w1, hw1⟩ : ∃ w1, w1 = w.alloc (.cells #[keyV B] 68) := ⟨_, rfl⟩
  have b1 : Below w.heap.size w w1 := by rw [hw1]; exact (Below.refl _ _).alloc (Nat.le_refl _) _
  have hglt := heap_lt hg
  have hK1 : w1.cell? ⟨K, 0, none⟩ = some (keyV B) := by rw [hw1, ← hKs]; exact cell_blk (i := 0) (heap_alloc_new _ _)
  have hg1 : w1.heap[g]? = some (.cells cur 3 (0, 0)) := (b1.block _ hglt).trans hg
  have hT1 := hT.below b1
  have hB1 : w1.cell? ⟨B, 1, none⟩ = some (.slice t.qp t.np t.cp) := cell_later b1 hB
  have hKg : K ≠ g := by omega
  have hcall : Calls Try.prog 52 #[.slice (some ⟨g, 0, none⟩) ids.length cap, .func (.func 53) #[] #[.pointer (some ⟨K, 0, none⟩)]] w1 fun e w' => e = .returned (.tuple #[]) ∧ Kept g w1 w' ∧
      ∃ (out : List Nat) (cur' : Array Value), out.Perm ids ∧ (∀ i j, i < j → j < out.length → plI ps (out.getD i 0) ≤ plI ps (out.getD j 0)) ∧ w'.heap[g]? = some (.cells cur' 3 (0, 0)) ∧ cur'.size = cur.size ∧ cur'.toList.take ids.length = out.map idV := by
    have hcmp : Sym.CmpIs w1 g 53 #[.pointer (some ⟨K, 0, none⟩)] (plI ps) (fun i => i < ps.length) := by
      intro W hW x y hx hy
      have hx' : ps[x]? = some ps[x] := List.getElem?_eq_getElem hx
      have hy' : ps[y]? = some ps[y] := List.getElem?_eq_getElem hy
      have hpl : ∀ (i : Nat) (p : Pc), ps[i]? = some p → PlAt W t i p := fun i p hi => by
        obtain ⟨g', o, hq, hc⟩ := hT1.pl hi
        exact ⟨g', o, hq, hW.cell (a := ⟨g', o + i * 14 + 6, none⟩) (hpg ⟨g', o, none⟩ hq) hc⟩
      rw [plI_at hx', plI_at hy']
      exact less_any t x y K B _ _ _ (by rw [hT.np.1]; exact hx) (by rw [hT.np.1]; exact hy) (hpl _ _ hx') (hpl _ _ hy') (hW.cell hBg hB1) (hW.cell hKg hK1)
    have hs := Sym.sortStable_any cur.size g cap 53 #[.pointer (some ⟨K, 0, none⟩)] (plI ps) (fun i => i < ps.length) w1 (enters_of Try.func53 (by kernel_rfl) rfl) hcmp ids ids.length w1 (Kept.refl _ _) rfl hids hlen ⟨cur, hg1, rfl, hcur, htake⟩
    refine hs.mono ?_
    rintro e w' ⟨rfl, hk, C, hp, hu, cur', hb', hs', hl', ht'⟩
    refine ⟨rfl, hk, C, cur', hp, fun i j hij hj => ?_, hb', hs', by rw [← hp.length_eq]; exact ht'⟩
    have := List.pairwise_iff_getElem.1 hu i j (by omega) hj hij
    rw [List.getD_eq_getElem?_getD, List.getD_eq_getElem?_getD, List.getElem?_eq_getElem hj, List.getElem?_eq_getElem (show i < C.length by omega)]
    exact this
  have HC := Lib.hid hcall
  have HKs := Lib.hid hKs
  have HW := Lib.hid hw1
  have B1 := Lib.hid b1
  clear hcall hT hB hg hg1 hT1 hB1 hK1 b1 htake hids hKs hw1
  unfold keyV at *
  go_enter Try.func43, Try.ntmps43
  go_wp2_with fail
  rw [← HW.out]
  rw [HKs.out]
  refine HC.out.mono ?_
  rintro e w2 ⟨rfl, k2, hout⟩
  have HO := Lib.hid hout
  have K2 : Hid (Kept g w w2) := Lib.hid ((Kept.of_below B1.out).trans k2)
  clear hout k2
  go_wp2_with fail
  go_end0
  exact ⟨rfl, K2.out, HO.out⟩
end Go.Proofs.Ytlbbabojejimpaa
