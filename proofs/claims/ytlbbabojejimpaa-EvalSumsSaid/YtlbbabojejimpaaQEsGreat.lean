import Derived.Test.YtlbbabojejimpaaQEsA
/- The law's great answers of any table. -/
namespace Go.Proofs.Ytlbbabojejimpaa
open Go.RowKit Go.Lib

/-- A kind's effects, and their steps. -/
theorem kind_effs {w : World} {t : Tb} {xs : List Cd} {ps : List Pc} (h : TabIn w t xs ps) {i : Nat} {x : Cd} (hi : xs[i]? = some x) :
    x.effects.length ≤ 9223372036854775807 ∧ ∃ g o q2 n2, t.qk = some ⟨g, o, none⟩ ∧ g < w.heap.size ∧ w.cell? ⟨g, o + i * 6 + 5, none⟩ = some (.slice q2 x.effects.length n2) ∧
      ∀ (j : Nat) (e : Ef), x.effects[j]? = some e → ∃ g2 o2 q3 n3, q2 = some ⟨g2, o2, none⟩ ∧ g2 < w.heap.size ∧ w.cell? ⟨g2, o2 + j * 12 + 11, none⟩ = some (.slice q3 e.steps.length n3) := by
  obtain ⟨D, q, c, hv, hl, -, hx⟩ := h.kinds
  obtain ⟨g, o, hq, cs, -, ⟨ve, rfl, -, q2, n2, rfl, hm, -, hx2⟩, hc⟩ := hx i x hi
  simp only [Value.slice.injEq] at hv
  rw [← hv.1] at hq
  unfold maxLen at hm
  refine ⟨hm, g, o, q2, n2, hq, World.block_lt_of_cell? _ _ (hc 0 _ rfl), hc 5 _ rfl, fun j e he => ?_⟩
  obtain ⟨g2, o2, hq2, cs, -, ⟨vc, vs, rfl, -, q3, n3, rfl, -⟩, hc2⟩ := hx2 j e he
  exact ⟨g2, o2, q3, n3, hq2, World.block_lt_of_cell? _ _ (hc2 0 _ rfl), hc2 11 _ rfl⟩

def BoolEnds (w : World) (e : Ending) (w' : World) : Prop := (∃ b, e = .returned (.bool b)) ∧ Below w.heap.size w w'

set_option maxHeartbeats 4000000 in
set_option maxRecDepth 100000 in
theorem great_any (t : Tb) (xs : List Cd) (ps : List Pc) (w : World) (hT : TabIn w t xs ps) : Calls Try.prog 4 #[.agg t.row] w (BoolEnds w) := by
  obtain ⟨qk, nk, ck, qp, np, cp, tl0, tl1, tn, py, mo, qe, ne, ce, b0, b1⟩ := t
  have hnk := hT.nk.1
  have hkm := hT.nk.2
  dsimp only at hnk
  have hnb : nk ≤ 140737488355328 := by omega
  clear hkm
  have HT := Lib.hid hT
  have HNK := Lib.hid hnk
  clear hT hnk
  obtain ⟨w0, hw0⟩ : ∃ w0, w0 = w.alloc (.cells (Tb.row ⟨qk, nk, ck, qp, np, cp, tl0, tl1, tn, py, mo, qe, ne, ce, b0, b1⟩) 28) := ⟨_, rfl⟩
  have hb0 : Below w.heap.size w w0 := by rw [hw0]; exact (Below.refl _ _).alloc (Nat.le_refl _) _
  have hx0 : w0.heap[w.heap.size]? = some (.cells (Tb.row ⟨qk, nk, ck, qp, np, cp, tl0, tl1, tn, py, mo, qe, ne, ce, b0, b1⟩) 28 (0, 0)) := by rw [hw0]; exact heap_alloc_new _ _
  have HB0 := Lib.hid hb0
  have HW0 := Lib.hid hw0
  simp only [Tb.row] at *
  have y0 := cell_blk (i := 0) hx0
  have y1 := cell_blk (i := 1) hx0
  simp at y0 y1
  have hlt0 := heap_lt hx0
  clear hb0 hw0 hx0
  go_enter Try.func4, Try.ntmps4
  go_wp2_with fail
  rw [← HW0.out]
  go_loopw [3, 9] (fun vm vi wr => ∃ (k : Nat) (m : Int), vm = .int .i64 m ∧ vi = .int .i64 k ∧ k ≤ nk ∧ wr = w0) (fun _ vi _ => nk - (RowKit.intOf vi).toNat)
  case atStart => exact ⟨0, 0, rfl, by rfl, by omega, rfl⟩
  case round =>
    obtain ⟨k, m, rfl, rfl, hk, rfl⟩ := hrel
    rename World => w0
    by_cases hlt : k < nk
    · obtain ⟨x, hx⟩ : ∃ x, xs[k]? = some x := ⟨xs[k]'(by have := HNK.out; omega), List.getElem?_eq_getElem _⟩
      obtain ⟨hmx, g, o, q2, n2, hq, hg, hc, he⟩ := kind_effs HT.out hx
      dsimp only at hq
      subst hq
      have hc := cell_later HB0.out hc
      have HE := Lib.hid fun j e hj => he j e hj
      have i0 : (0 : Int) ≤ (k : Int) := by omega
      have i1 : (k : Int) < (nk : Int) := by omega
      obtain ⟨M, hM⟩ : ∃ M, M = x.effects.length := ⟨_, rfl⟩
      rw [← hM] at hc hmx
      have HM := Lib.hid hM
      clear he hx hM
      go_wp2_with fail
      go_loopw [3, 19] (fun vm vi wr => ∃ (j : Nat) (m : Int), vm = .int .i64 m ∧ vi = .int .i64 j ∧ j ≤ M ∧ wr = w0) (fun _ vi _ => M - (RowKit.intOf vi).toNat)
      case atStart => exact ⟨0, _, rfl, by rfl, by omega, rfl⟩
      case round =>
        obtain ⟨j, m, rfl, rfl, hj, rfl⟩ := hrel
        rename World => w0
        by_cases hlj : j < M
        · obtain ⟨e, hej⟩ : ∃ e, x.effects[j]? = some e := ⟨x.effects[j]'(by have := HM.out; omega), List.getElem?_eq_getElem _⟩
          obtain ⟨g2, o2, q3, n3, hq2, hg2, hc2⟩ := HE.out j e hej
          subst hq2
          have hc2 := cell_later HB0.out hc2
          have j0 : (0 : Int) ≤ (j : Int) := by omega
          have j1 : (j : Int) < (M : Int) := by omega
          clear hej
          go_wp2_with fail
          go_roundw
          case rel => exact ⟨j + 1, _, rfl, by go_num, by omega, by first | trivial | rfl⟩
          case measure => simp [RowKit.intOf]; omega
        · obtain rfl : j = M := by omega
          go_wp2_with fail
          go_roundw
          case rel => exact ⟨k + 1, _, rfl, by go_num, by omega, by first | trivial | rfl⟩
          case measure => simp [RowKit.intOf]; omega
    · obtain rfl : k = nk := by omega
      go_wp2_with fail
      all_goals go_ret
      all_goals exact ⟨⟨_, rfl⟩, HB0.out⟩
end Go.Proofs.Ytlbbabojejimpaa
