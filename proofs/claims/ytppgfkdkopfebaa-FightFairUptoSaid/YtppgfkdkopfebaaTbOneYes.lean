/- joustref06: one: a piece that may be, by itself, is told so. -/
import Derived.Test.YtppgfkdkopfebaaTbMay
namespace Go.Proofs.Ytppgfkdkopfebaa
open Go.RowKit Go.Lib

def TrueEnds (w : World) (e : Ending) (w' : World) : Prop := e = .returned (.bool true) ∧ Below w.heap.size w w'
theorem true_if {w w' : World} {b : Bool} (hb : b = true) (h : Below w.heap.size w w') : TrueEnds w (.returned (.bool b)) w' := ⟨by rw [hb], h⟩

set_option maxHeartbeats 8000000 in
theorem rone_yes (t : Tb) (xs : List Cd) (ps : List Pc) (i : Nat) (p : Pc) (w : World) (hT : TabIn w t xs ps) (hi : ps[i]? = some p) (hO : OneP xs p) : Calls Try.prog 43 #[.agg t.row, .int .i64 i] w (TrueEnds w) := by
  have hk := Lib.hid fun (W : World) (hb : Below w.heap.size w W) => rkind_any t xs ps i p W (hT.below hb) hi
  obtain ⟨g, o, hq, hg, hc⟩ := hT.piece hi
  have hil : i < t.np := by rw [hT.np.1]; exact (List.getElem?_eq_some_iff.1 hi).1
  have hnk := hT.nk.1
  obtain ⟨K, hK⟩ : ∃ K, kindI xs p.df = K := ⟨_, rfl⟩
  rw [hK] at hk
  have d1 : ¬ p.df < -1 := by have := hO.df; omega
  have d2 : ¬ p.df ≥ (t.nk : Int) := by have := hO.df; omega
  have o1 : ¬ (p.ow : Int) > 1 := by have := hO.ow; omega
  have o2 : ¬ (p.hs : Int) > 1 := by have := hO.hs; omega
  have o3 : ¬ (p.zn : Int) > 7 := by have := hO.zn; omega
  have a1 : ¬ p.ak < 0 := by have := hO.ak; omega
  have a2 : ¬ p.ak > 99999 := by have := hO.ak; omega
  have a3 : ¬ p.gd < 0 := by have := hO.gd; omega
  have a4 : ¬ p.gd > 99999 := by have := hO.gd; omega
  have b1 := hO.row
  have b2 := hO.nul
  have b3 := hO.unit
  have b4 := hO.back
  have b5 := hO.tok
  have b6 := hO.not
  have b7 := hO.sh
  have b8 := hO.zn
  rw [hK] at b3 b4
  have HB := Lib.hid (And.intro b1 (And.intro b2 (And.intro b3 (And.intro b4 (And.intro b5 (And.intro b6 b8))))))
  clear hK hnk hO b1 b2 b3 b4 b5 b6 b8
  have c0 := hc 0 _ rfl
  have c1 := hc 1 _ rfl
  have c2 := hc 2 _ rfl
  have c3 := hc 3 _ rfl
  have c4 := hc 4 _ rfl
  have c5 := hc 5 _ rfl
  have c6 := hc 6 _ rfl
  have c7 := hc 7 _ rfl
  have c8 := hc 8 _ rfl
  have c9 := hc 9 _ rfl
  have c10 := hc 10 _ rfl
  have c11 := hc 11 _ rfl
  have c12 := hc 12 _ rfl
  have c13 := hc 13 _ rfl
  simp only [Nat.add_zero] at c0
  have i0 : (0 : Int) ≤ (i : Int) := by omega
  have i2 : (i : Int) < (t.np : Int) := by omega
  clear hT hc hi
  simp only [Tb.row] at *
  rw [hq] at hk ⊢
  by_cases hs : p.ow = p.hs
  · have hne : ((p.ow : Int) != (p.hs : Int)) = false := by simp [hs]
    clear hs b7
    go_enter Try.func43, Try.ntmps43
    go_wp2_with fail
    refine (hk.out _ (((Below.refl _ _).alloc (Nat.le_refl _) _).alloc (by simp) _)).mono ?_
    rintro e w2 ⟨rfl, b2⟩
    have B2 := Lib.hid ((((Below.refl _ _).alloc (Nat.le_refl _) _).alloc (by simp) _ : Below w.heap.size w _).trans (b2.mono (by simp; omega)))
    have q0 := (b2.block (w.heap.size + 1) (by simp)).trans (heap_newer _ _ _ (by simp))
    have hq0 := heap_lt q0
    have y0 := cell_blk (i := 0) q0
    have y5 := cell_blk (i := 5) q0
    have y6 := cell_blk (i := 6) q0
    simp at y0 y5 y6
    clear q0 b2 c0 c1 c2 c3 c4 c5 c6 c7 c8 c9 c10 c11 c12 c13
    go_wp2_with fail
    all_goals go_ret
    all_goals (clear y0 y5 y6 hk)
    all_goals (have hB := HB.out; clear HB)
    all_goals (try simp only [beq_iff_eq, beq_eq_false_iff_ne, ne_eq] at *)
    all_goals first
      | (exfalso; omega)
      | (refine true_if ?_ B2.out; first | rfl | (simp; omega))
  · have hne : ((p.ow : Int) != (p.hs : Int)) = true := by simp; omega
    have hsh := b7.resolve_left hs
    clear b7 hs
    go_enter Try.func43, Try.ntmps43
    go_wp2_with fail
    refine (rshared_any _ _).mono ?_
    rintro e w1 ⟨rfl, rfl⟩
    rw [hsh]
    go_wp2_with fail
    refine (hk.out _ (((Below.refl _ _).alloc (Nat.le_refl _) _).alloc (by simp) _)).mono ?_
    rintro e w2 ⟨rfl, b2⟩
    have B2 := Lib.hid ((((Below.refl _ _).alloc (Nat.le_refl _) _).alloc (by simp) _ : Below w.heap.size w _).trans (b2.mono (by simp; omega)))
    have q0 := (b2.block (w.heap.size + 1) (by simp)).trans (heap_newer _ _ _ (by simp))
    have hq0 := heap_lt q0
    have y0 := cell_blk (i := 0) q0
    have y5 := cell_blk (i := 5) q0
    have y6 := cell_blk (i := 6) q0
    simp at y0 y5 y6
    clear q0 b2 c0 c1 c2 c3 c4 c5 c6 c7 c8 c9 c10 c11 c12 c13
    go_wp2_with fail
    all_goals go_ret
    all_goals (clear y0 y5 y6 hk)
    all_goals (have hB := HB.out; clear HB)
    all_goals (try simp only [beq_iff_eq, beq_eq_false_iff_ne, ne_eq] at *)
    all_goals first
      | (exfalso; omega)
      | (refine true_if ?_ B2.out; first | rfl | (simp; omega))
end Go.Proofs.Ytppgfkdkopfebaa
