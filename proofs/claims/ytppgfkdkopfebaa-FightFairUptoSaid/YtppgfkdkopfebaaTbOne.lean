/- joustref06: one: a piece that is told that it may be, by itself, is so. -/
import Derived.Test.YtppgfkdkopfebaaTbRef
namespace Go.Proofs.Ytppgfkdkopfebaa
open Go.RowKit Go.Lib

/-- A piece may be, by itself. -/
structure OneP (xs : List Cd) (p : Pc) : Prop where
  df : -1 ≤ p.df ∧ p.df < xs.length
  ow : p.ow ≤ 1
  hs : p.hs ≤ 1
  zn : p.zn ≤ 7
  sh : p.ow = p.hs ∨ sharedB p.zn = true
  ak : 0 ≤ p.ak ∧ p.ak ≤ 99999
  gd : 0 ≤ p.gd ∧ p.gd ≤ 99999
  row : p.zn = 2 ∨ p.zn = 3 → 0 ≤ p.pl ∧ p.pl < 5
  nul : p.zn = 6 ∨ p.zn = 7 → p.pl = 0
  unit : p.zn = 2 ∨ p.zn = 6 → kindI xs p.df = 0
  back : p.zn = 3 → kindI xs p.df ≠ 0
  tok : p.df = -1 → p.zn = 2 ∨ p.zn = 7
  not : p.df ≠ -1 → p.zn ≠ 7
/-- What a call of one ends in. -/
def OneEnds (xs : List Cd) (p : Pc) (w : World) (e : Ending) (w' : World) : Prop := (∃ b, e = .returned (.bool b) ∧ (b = true → OneP xs p)) ∧ Below w.heap.size w w'
theorem one_no {xs : List Cd} {p : Pc} {w w' : World} (h : Below w.heap.size w w') : OneEnds xs p w (.returned (.bool false)) w' := ⟨⟨false, rfl, fun h => by cases h⟩, h⟩
theorem one_if {xs : List Cd} {p : Pc} {w w' : World} {b : Bool} (hb : b = true → OneP xs p) (h : Below w.heap.size w w') : OneEnds xs p w (.returned (.bool b)) w' := ⟨⟨b, rfl, hb⟩, h⟩

set_option maxHeartbeats 4000000 in
theorem rone_any (t : Tb) (xs : List Cd) (ps : List Pc) (i : Nat) (p : Pc) (w : World) (hT : TabIn w t xs ps) (hi : ps[i]? = some p) : Calls Try.prog 43 #[.agg t.row, .int .i64 i] w (OneEnds xs p w) := by
  have hk := Lib.hid fun (W : World) (hb : Below w.heap.size w W) => rkind_any t xs ps i p W (hT.below hb) hi
  obtain ⟨g, o, hq, hg, hc⟩ := hT.piece hi
  have hil : i < t.np := by rw [hT.np.1]; exact (List.getElem?_eq_some_iff.1 hi).1
  have hnk := hT.nk.1
  obtain ⟨K, hK⟩ : ∃ K, kindI xs p.df = K := ⟨_, rfl⟩
  rw [hK] at hk
  have HH : Hid (-1 ≤ p.df ∧ p.df < t.nk → p.ow ≤ 1 → p.hs ≤ 1 → p.zn ≤ 7 → (p.ow = p.hs ∨ sharedB p.zn = true) → (0 ≤ p.ak ∧ p.ak ≤ 99999) → (0 ≤ p.gd ∧ p.gd ≤ 99999) → (p.zn = 2 ∨ p.zn = 3 → 0 ≤ p.pl ∧ p.pl < 5) → (p.zn = 6 ∨ p.zn = 7 → p.pl = 0) → (p.zn = 2 ∨ p.zn = 6 → K = 0) → (p.zn = 3 → K ≠ 0) → (p.df = -1 → p.zn = 2 ∨ p.zn = 7) → (p.df ≠ -1 → p.zn ≠ 7) → OneP xs p) := Lib.hid fun d1 d2 d3 d4 d5 d6 d7 b1 b2 b3 b4 b5 b6 => ⟨by omega, d2, d3, d4, d5, d6, d7, b1, b2, by rw [hK]; exact b3, by rw [hK]; exact b4, b5, b6⟩
  clear hK hnk
  have c0 := hc 0 _ rfl
  have c1 := hc 1 _ rfl
  have c2 := hc 2 _ rfl
  have c3 := hc 3 _ rfl
  have c4 := hc 4 _ rfl
  have c5 := hc 5 _ rfl
  have c6 := hc 6 _ rfl
  have c7 := hc 7 _ rfl
  have c8 := hc 8 _ rfl
  have c9 := hc 9 _ rfl
  have c10 := hc 10 _ rfl
  have c11 := hc 11 _ rfl
  have c12 := hc 12 _ rfl
  have c13 := hc 13 _ rfl
  simp only [Nat.add_zero] at c0
  have i0 : (0 : Int) ≤ (i : Int) := by omega
  have i2 : (i : Int) < (t.np : Int) := by omega
  clear hT hc hi
  simp only [Tb.row] at *
  rw [hq] at hk ⊢
  go_enter Try.func43, Try.ntmps43
  go_wp2_with fail
  all_goals (try (go_ret; exact one_no (((Below.refl _ _).alloc (Nat.le_refl _) _).alloc (by simp) _)))
  · skip
    refine (hk.out _ (((Below.refl _ _).alloc (Nat.le_refl _) _).alloc (by simp) _)).mono ?_
    rintro e w2 ⟨rfl, b2⟩
    have B2 := Lib.hid ((((Below.refl _ _).alloc (Nat.le_refl _) _).alloc (by simp) _ : Below w.heap.size w _).trans (b2.mono (by simp; omega)))
    have q0 := (b2.block (w.heap.size + 1) (by simp)).trans (heap_newer _ _ _ (by simp))
    have hq0 := heap_lt q0
    have y0 := cell_blk (i := 0) q0
    have y5 := cell_blk (i := 5) q0
    have y6 := cell_blk (i := 6) q0
    simp at y0 y5 y6
    clear q0 b2 c0 c1 c2 c3 c4 c5 c6 c7 c8 c9 c10 c11 c12 c13
    go_wp2_with fail
    all_goals go_ret
    all_goals (clear y0 y5 y6 hk)
    all_goals (try simp only [beq_iff_eq, beq_eq_false_iff_ne, ne_eq] at *)
    all_goals first
      | exact one_no B2.out
      | (refine one_if (fun hb => HH.out (by omega) (by omega) (by omega) (by omega) (.inl (by omega)) (by omega) (by omega) (by omega) (by omega) (by omega) (by omega) (by simp at hb; omega) (by simp at hb; omega)) B2.out)
  · refine (rshared_any _ _).mono ?_
    rintro e w1 ⟨rfl, rfl⟩
    have hne : ((p.ow : Int) != (p.hs : Int)) = true := by simp; omega
    cases hsh : sharedB p.zn with
    | false =>
      go_wp2_with fail
      go_ret
      exact one_no (((Below.refl _ _).alloc (Nat.le_refl _) _).alloc (by simp) _)
    | true =>
      go_wp2_with fail
      all_goals (try (go_ret; exact one_no (((Below.refl _ _).alloc (Nat.le_refl _) _).alloc (by simp) _)))
      refine (hk.out _ (((Below.refl _ _).alloc (Nat.le_refl _) _).alloc (by simp) _)).mono ?_
      rintro e w2 ⟨rfl, b2⟩
      have B2 := Lib.hid ((((Below.refl _ _).alloc (Nat.le_refl _) _).alloc (by simp) _ : Below w.heap.size w _).trans (b2.mono (by simp; omega)))
      have q0 := (b2.block (w.heap.size + 1) (by simp)).trans (heap_newer _ _ _ (by simp))
      have hq0 := heap_lt q0
      have y0 := cell_blk (i := 0) q0
      have y5 := cell_blk (i := 5) q0
      have y6 := cell_blk (i := 6) q0
      simp at y0 y5 y6
      clear q0 b2 c0 c1 c2 c3 c4 c5 c6 c7 c8 c9 c10 c11 c12 c13
      go_wp2_with fail
      all_goals go_ret
      all_goals (clear y0 y5 y6 hk)
      all_goals (try simp only [beq_iff_eq, beq_eq_false_iff_ne, ne_eq] at *)
      all_goals first
        | exact one_no B2.out
        | (refine one_if (fun hb => HH.out (by omega) (by omega) (by omega) (by omega) (.inr hsh) (by omega) (by omega) (by omega) (by omega) (by omega) (by omega) (by simp at hb; omega) (by simp at hb; omega)) B2.out)
end Go.Proofs.Ytppgfkdkopfebaa
