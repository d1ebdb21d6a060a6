/- Layer 2 (parse): the table of steps: what a look-up in it tells. -/
import Derived.Test.YtaffgdgdojdoiaaGreatDoorParMem
import Derived.MapKept
namespace Go.Proofs.YtaffgdgdojdoiaaGreatDoor
open Go.RowKit Go.Lib

/-- What the table tells of a word. -/
def stepV (A : Nat → Nat) (d : Nat) : Value := match d with
  | 0 => amountV (A 0) | 1 => amountV (A 1) | 2 => amountV (A 2) | 3 => amountV (A 3) | 9 => amountV (A 4)
  | 4 => piecesV (A 5) | 5 => piecesV (A 6) | 6 => piecesV (A 7) | 8 => piecesV (A 8) | 7 => boostV | _ => negateV
theorem now_eq (a b : ByteArray) : Instr.sameNow .string (.string a) (.string b) = some (a == b) := rfl
theorem beq_ne {a b : ByteArray} (h : a ≠ b) : (a == b) = false := by
  cases hb : a == b with
  | true => exact absurd ((MapKept.bytes_beq a b).1 hb) h
  | false => rfl
theorem find_none (tx : ByteArray) : ∀ (l : List MapEntry) (i : Nat), (∀ e ∈ l, ∃ s, e.key = .string s ∧ s ≠ tx) → Instr.findNow .string (.string tx) l i = some none
  | [], _, _ => rfl
  | e :: es, i, h => by
    obtain ⟨s, hs, hne⟩ := h e List.mem_cons_self
    unfold Instr.findNow
    rw [hs, now_eq, beq_ne (Ne.symm hne)]
    exact find_none tx es (i + 1) fun x hx => h x (List.mem_cons_of_mem _ hx)

theorem findW_mem {ws : List ByteArray} {t : ByteArray} : ∀ {i : Nat}, findW ws t i = none → ∀ x ∈ ws, x ≠ t := by
  induction ws with
  | nil => intro i _ x hx; simp at hx
  | cons w l ih =>
    intro i h x hx
    unfold findW at h
    by_cases he : w = t
    · rw [if_pos he] at h; cases h
    · rw [if_neg he] at h
      rcases List.mem_cons.1 hx with rfl | hx
      · exact he
      · exact ih h x hx
theorem findW_get : ∀ (ws : List ByteArray) (t : ByteArray) (i k : Nat), findW ws t i = some k → ws[k - i]? = some t ∧ i ≤ k
  | [], _, _, _, h => by simp [findW] at h
  | w :: l, t, i, k, h => by
    unfold findW at h
    by_cases he : w = t
    · rw [if_pos he] at h; cases h; simp [he]
    · rw [if_neg he] at h
      have := findW_get l t (i + 1) k h
      refine ⟨?_, by omega⟩
      rw [show k - i = (k - (i + 1)) + 1 by omega]
      simpa using this.1

theorem look_run (W : World) (E : Env) (h : W.heap[E.M]? = some (.map (entriesOf E.A).toArray 11)) (tx : ByteArray) :
    (Instr.lookup 77 (.map (some E.M)) (.string tx) false).run Tryz.prog W = .ok (match findW stepsW tx 0 with | some d => stepV E.A d | none => .nilFunc) W := by
  have ht : Tryz.prog.underlying 77 = some (.map 9 102) := Tryz.underlying77
  have hs : Tryz.prog.underlying 9 = some .string := Tryz.underlying9
  have hz : (zeroValue 102).run Tryz.prog W = .ok .nilFunc W := by kernel_rfl
  have hc := MapKept.run_checkKey (w := W) hs (k := .string tx) (by simp [MapKept.IsKey]) false 9999
  have he : (entriesOf E.A).isEmpty = false := rfl
  cases hf : findW stepsW tx 0 with
  | none =>
    have hne := findW_mem hf
    have hn : Instr.findNow .string (.string tx) (entriesOf E.A) 0 = some none := find_none tx _ _ (by
      intro e he
      simp only [entriesOf, List.mem_cons, List.not_mem_nil, or_false] at he
      rcases he with rfl | rfl | rfl | rfl | rfl | rfl | rfl | rfl | rfl | rfl | rfl <;> exact ⟨_, rfl, hne _ (by simp [stepsW])⟩)
    simp [Instr.lookup, run_underlying ht, MapKept.run_getObj_map h, hc, MapKept.run_findKey hs hn, hz, Result.andThen, he]
  | some d =>
    obtain ⟨hg, -⟩ := findW_get _ _ _ _ hf
    have hd : d < 11 := by have := (List.getElem?_eq_some_iff.1 hg).1; simpa [stepsW] using this
    have hfound : ∃ i, Instr.findNow .string (.string tx) (entriesOf E.A) 0 = some (some (i, stepV E.A d)) := by
      match d, hd, hg with
      | 0, _, hg => cases hg; exact ⟨_, rfl⟩
      | 1, _, hg => cases hg; exact ⟨_, rfl⟩
      | 2, _, hg => cases hg; exact ⟨_, rfl⟩
      | 3, _, hg => cases hg; exact ⟨_, rfl⟩
      | 4, _, hg => cases hg; exact ⟨_, rfl⟩
      | 5, _, hg => cases hg; exact ⟨_, rfl⟩
      | 6, _, hg => cases hg; exact ⟨_, rfl⟩
      | 7, _, hg => cases hg; exact ⟨_, rfl⟩
      | 8, _, hg => cases hg; exact ⟨_, rfl⟩
      | 9, _, hg => cases hg; exact ⟨_, rfl⟩
      | 10, _, hg => cases hg; exact ⟨_, rfl⟩
    obtain ⟨i, hi⟩ := hfound
    simp [Instr.lookup, run_underlying ht, MapKept.run_getObj_map h, hc, MapKept.run_findKey hs hi, Result.andThen, he]
end Go.Proofs.YtaffgdgdojdoiaaGreatDoor
