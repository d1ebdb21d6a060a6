/- A list of numbers that came in, with how many there may be. -/
import Derived.Test.YtdhefefhipdlcaaMxArgs
import Derived.SizedLaws
namespace Go.Proofs.Ytdhefefhipdlcaa
open Go.RowKit Go.Shelf Go.Lib
open Go.ChangeShapes Go.WideShapes Go.Deep

/-- None of a datum's parts is of more bytes than fit together. -/
def Light {H : Type} (P : Program) (t : TypeId) (d : DataW H) : Prop := ∀ n ∈ d.weights P t, n ≤ 140737488351232
theorem weightsAll_in {H : Type} {P : Program} {e : TypeId} : ∀ {l : List (DataW H)} {d : DataW H}, d ∈ l → ∀ n ∈ d.weights P e, n ∈ DataW.weightsAll P e l
  | [], _, h, _, _ => by cases h
  | x :: l, d, h, n, hn => by
    rw [DataW.weightsAll]
    rcases List.mem_cons.1 h with rfl | h
    · exact List.mem_append.2 (.inl hn)
    · exact List.mem_append.2 (.inr (weightsAll_in h n hn))
theorem light_slice {H : Type} {P : Program} {t e : TypeId} {l r : List (DataW H)} (ht : P.underlying t = some (.slice e)) (h : Light P t (.slice l r)) : l.length * P.bytesOf e ≤ 140737488351232 ∧ ∀ d ∈ l, Light P e d := by
  unfold Light at h
  rw [DataW.weights, ht] at h
  simp only [] at h
  refine ⟨Nat.le_trans (Nat.mul_le_mul_right _ (Nat.le_add_right _ _)) (h _ List.mem_cons_self), fun d hd n hn => h n (List.mem_cons_of_mem _ (List.mem_append.2 (.inl (weightsAll_in hd n hn))))⟩
/-- Of each argument no part is of more bytes than fit together. -/
theorem light_of {H : Type} {P : Program} {ts : List TypeId} {ds : List (DataW H)} (h : (DataW.weightsEach P ts ds).all (· ≤ reachBytes) = true) {j : Nat} {t : TypeId} {d : DataW H} (ht : ts[j]? = some t) (hd : ds[j]? = some d) : Light P t d := fun n hn => by
  have := of_decide_eq_true (List.all_eq_true.1 h n (DataW.weights_mem_each ht hd n hn))
  exact Nat.le_trans this (by decide)


variable {H : Type} {enc : TypeId × Value → H} {w : World} {r : Reach} {b0 : Nat}
set_option maxRecDepth 100000 in
theorem rd_intsL {v : Value} {d : DataW H} {p : List MemPlace} (h : DataW.Trod enc Try.prog w 0 (fun _ => true) true 32 v d p) (hv : Value.okWide Try.prog w r b0 32 v) (hL : Light Try.prog 32 d) :
    ∃ (q : Option Addr) (c : Nat) (xs : List Int), v = .slice q xs.length c ∧ xs.length * 8 ≤ 140737488355328 ∧ (q = none → c = 0) ∧ IntsAt w q xs := by
  obtain ⟨a0, len0, cap0, rfl⟩ := okWide_slice Try.underlying32 hv
  obtain ⟨fuel, hf⟩ := h
  have hb : Try.prog.bytesOf 3 = 8 := by kernel_rfl
  rcases open_ints (x := (d, p)) Try.underlying32 Try.underlying3 (by kernel_rfl) (by simpa [Value.cells] using hf) with ⟨hcs, _⟩ | ⟨a, len, cap, zs, hcs, _, hl, hm, hz, hx, hcell, _⟩
  · cases hcs
    exact ⟨none, 0, [], rfl, by simp, fun _ => rfl, IntsAt.nil _ _⟩
  · cases hcs
    have hzl : zs.length = cap0 := by simpa using hz
    have hd : d = .slice (lits .i64 (zs.take len0)) (lits .i64 (zs.drop len0)) := by have := congrArg Prod.fst hx; simpa using this
    rw [hd] at hL
    have h8 := (light_slice Try.underlying32 hL).1
    have hlen : (lits (H := H) .i64 (zs.take len0)).length = len0 := by simp [lits]; omega
    rw [hlen, hb] at h8
    refine ⟨some a, cap0, zs.take len0, by rw [List.length_take, hzl, Nat.min_eq_left hl], by rw [List.length_take]; omega, (fun h => by cases h), fun i x hx => ⟨a, rfl, ?_⟩⟩
    have hi : i < len0 := by have := (List.getElem?_eq_some_iff.1 hx).1; rw [List.length_take] at this; omega
    rw [List.getElem?_take_of_lt hi] at hx
    rw [hcell i (by omega), List.getD_eq_getElem?_getD, hx]
    rfl
end Go.Proofs.Ytdhefefhipdlcaa
