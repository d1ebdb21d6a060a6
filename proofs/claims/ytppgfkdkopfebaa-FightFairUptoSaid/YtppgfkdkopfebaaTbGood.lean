/- Plain: what a table that may be is. -/
import Derived.Test.YtppgfkdkopfebaaTbOne
namespace Go.Proofs.Ytppgfkdkopfebaa
open Go.RowKit Go.Lib

/-- What is told of a table's pieces. -/
structure GoodB (xs : List Cd) (ps : List Pc) : Prop where
  few : ps.length ≤ 144
  one : ∀ p ∈ ps, OneP xs p
  uniq : ∀ p ∈ ps, p.zn ≠ 6 → p.zn ≠ 7 → ps.countP (inP p.hs p.zn p.pl) = 1
  pile : ∀ p ∈ ps, p.zn ≠ 6 → p.zn ≠ 7 → sharedB p.zn = false → 0 ≤ p.pl ∧ p.pl < ps.countP (inZ p.hs p.zn)
  limbo : ps.countP (fun p => p.zn == 6) ≤ 1
/-- What is told of the rest of a table. -/
structure LifeOk (t : Tb) : Prop where
  l0 : 0 ≤ t.l0 ∧ t.l0 ≤ 99999
  l1 : 0 ≤ t.l1 ∧ t.l1 ≤ 99999
  tn : 1 ≤ t.tn
  py : t.py ≤ 1
def bareP (p : Pc) : Pc := { p with up := false }
theorem OneP.bare {xs : List Cd} {p : Pc} (h : OneP xs p) : OneP xs (bareP p) := ⟨h.df, h.ow, h.hs, h.zn, h.sh, h.ak, h.gd, h.row, h.nul, h.unit, h.back, h.tok, h.not⟩
theorem OneP.unbare {xs : List Cd} {p : Pc} (h : OneP xs (bareP p)) : OneP xs p := ⟨h.df, h.ow, h.hs, h.zn, h.sh, h.ak, h.gd, h.row, h.nul, h.unit, h.back, h.tok, h.not⟩
theorem count_bare (f : Pc → Bool) (hf : ∀ p, f (bareP p) = f p) (ps : List Pc) : (ps.map bareP).countP f = ps.countP f := by
  rw [List.countP_map]
  congr 1
  funext p
  exact hf p
theorem GoodB.bare {xs : List Cd} {ps : List Pc} (h : GoodB xs ps) : GoodB xs (ps.map bareP) := by
  refine ⟨by rw [List.length_map]; exact h.few, ?_, ?_, ?_, by rw [count_bare (fun p => p.zn == 6) fun p => rfl]; exact h.limbo⟩
  · intro q hq
    obtain ⟨p, hp, rfl⟩ := List.mem_map.1 hq
    exact (h.one p hp).bare
  · intro q hq h6 h7
    obtain ⟨p, hp, rfl⟩ := List.mem_map.1 hq
    rw [count_bare _ fun p => rfl]
    exact h.uniq p hp h6 h7
  · intro q hq h6 h7 hs
    obtain ⟨p, hp, rfl⟩ := List.mem_map.1 hq
    rw [count_bare _ fun p => rfl]
    exact h.pile p hp h6 h7 hs
theorem GoodB.unbare {xs : List Cd} {ps : List Pc} (h : GoodB xs (ps.map bareP)) : GoodB xs ps := by
  refine ⟨by have := h.few; rwa [List.length_map] at this, ?_, ?_, ?_, by have := h.limbo; rwa [count_bare (fun p => p.zn == 6) fun p => rfl] at this⟩
  · intro p hp
    exact (h.one _ (List.mem_map_of_mem hp)).unbare
  · intro p hp h6 h7
    have := h.uniq _ (List.mem_map_of_mem hp) h6 h7
    rwa [count_bare _ fun p => rfl] at this
  · intro p hp h6 h7 hs
    have := h.pile _ (List.mem_map_of_mem hp) h6 h7 hs
    rwa [count_bare _ fun p => rfl] at this
/-- Which pieces are Up doesn't count. -/
theorem GoodB.ups {xs : List Cd} {ps qs : List Pc} (h : GoodB xs ps) (e : qs.map bareP = ps.map bareP) : GoodB xs qs := GoodB.unbare (by rw [e]; exact h.bare)

/-! ### so many places, so many pieces -/
theorem nodup_le : ∀ (n : Nat) (l : List Nat), (∀ x ∈ l, x < n) → l.Nodup → l.length ≤ n
  | 0, l, h, _ => by
    cases l with
    | nil => simp
    | cons x l => exact absurd (h x List.mem_cons_self) (by omega)
  | n + 1, l, h, hd => by
    have h1 := nodup_le n (l.erase n) (fun x hx => by
      have := (hd.mem_erase_iff).1 hx
      have := h x this.2
      omega) (hd.erase n)
    have h2 := List.length_erase_le (a := n) (l := l)
    by_cases hn : n ∈ l
    · have := List.length_erase_of_mem hn
      omega
    · rw [List.erase_of_not_mem hn] at h1
      omega
theorem all_there {n : Nat} {l : List Nat} (h : ∀ x ∈ l, x < n) (hd : l.Nodup) (hl : l.length = n) {a : Nat} (ha : a < n) : a ∈ l := by
  apply Decidable.byContradiction
  intro hn
  have := nodup_le n (a :: l) (by
    intro x hx
    rcases List.mem_cons.1 hx with rfl | hx
    · exact ha
    · exact h x hx) (List.nodup_cons.2 ⟨hn, hd⟩)
  simp at this
  omega
theorem nodup_of_count {l : List Pc} {h z : Nat} (hu : ∀ p ∈ l, p.hs = h → p.zn = z → l.countP (inP h z p.pl) = 1) : ((l.filter (inZ h z)).map (·.pl)).Nodup := by
  rw [List.nodup_iff_count]
  intro a
  rw [List.count_eq_countP, List.countP_map, List.countP_filter]
  by_cases hx : ∃ p ∈ l, p.hs = h ∧ p.zn = z ∧ p.pl = a
  · obtain ⟨p, hp, h1, h2, rfl⟩ := hx
    have := hu p hp h1 h2
    refine Nat.le_of_eq (Eq.trans ?_ this)
    congr 1
    funext q
    simp [inP, inZ, Bool.and_comm]
  · have : l.countP (fun q => ((fun b => b == a) ∘ fun x => x.pl) q && inZ h z q) = 0 := by
      rw [List.countP_eq_zero]
      intro q hq hc
      simp [inZ] at hc
      exact hx ⟨q, hq, hc.2.2, hc.2.1, hc.1⟩
    exact Nat.le_trans (Nat.le_of_eq this) (by omega)
/-- In a pile each place below how many lie there is taken. -/
theorem GoodB.full {xs : List Cd} {ps : List Pc} (h : GoodB xs ps) {w z : Nat} (h6 : z ≠ 6) (h7 : z ≠ 7) (hs : sharedB z = false) {a : Nat} (ha : a < ps.countP (inZ w z)) : ∃ p ∈ ps, p.hs = w ∧ p.zn = z ∧ p.pl = a := by
  have hd := nodup_of_count (l := ps) (h := w) (z := z) fun p hp h1 h2 => by
    have := h.uniq p hp (by omega) (by omega)
    rwa [h1, h2] at this
  obtain ⟨L, hL⟩ : ∃ L, L = ((ps.filter (inZ w z)).map fun p => p.pl.toNat) := ⟨_, rfl⟩
  have hin : ∀ p ∈ ps.filter (inZ w z), p ∈ ps ∧ p.hs = w ∧ p.zn = z ∧ 0 ≤ p.pl ∧ p.pl < ps.countP (inZ w z) := by
    intro p hp
    obtain ⟨hp, hi⟩ := List.mem_filter.1 hp
    simp only [inZ, Bool.and_eq_true, beq_iff_eq] at hi
    have := h.pile p hp (by omega) (by omega) (by rw [hi.1]; exact hs)
    rw [hi.1, hi.2] at this
    exact ⟨hp, hi.2, hi.1, this.1, this.2⟩
  have hall : a ∈ L := by
    refine all_there (n := ps.countP (inZ w z)) ?_ ?_ ?_ ha
    · intro x hx
      rw [hL] at hx
      obtain ⟨p, hp, rfl⟩ := List.mem_map.1 hx
      have := hin p hp
      omega
    · rw [hL, List.nodup_iff_pairwise_ne, List.pairwise_map]
      rw [List.nodup_iff_pairwise_ne, List.pairwise_map] at hd
      refine hd.imp_of_mem fun {p q} hp hq hne => ?_
      have := hin p hp
      have := hin q hq
      omega
    · rw [hL, List.length_map, List.countP_eq_length_filter]
  rw [hL] at hall
  obtain ⟨p, hp, hpa⟩ := List.mem_map.1 hall
  have := hin p hp
  exact ⟨p, this.1, this.2.1, this.2.2.1, by omega⟩
end Go.Proofs.Ytppgfkdkopfebaa
