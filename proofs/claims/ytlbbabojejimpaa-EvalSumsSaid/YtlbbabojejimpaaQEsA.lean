import Derived.Test.YtlbbabojejimpaaQEvValue
/- joustlaw08: wide, number, bit. -/
namespace Go.Proofs.Ytlbbabojejimpaa
open Go.RowKit Go.Lib

theorem bit_any (b : Bool) (w : World) : Calls Try.prog 10 #[.bool b] w fun e w' => e = .returned (.int .i64 (oneI b)) ∧ w' = w := by
  cases b
  all_goals
    go_enter Try.func10, Try.ntmps10
    go_wp2_with fail
    go_ret
    exact ⟨rfl, rfl⟩
def YesNo (w : World) (e : Ending) (w' : World) : Prop := (∃ b, e = .returned (.bool b)) ∧ Below w.heap.size w w'
set_option maxHeartbeats 8000000 in
set_option maxRecDepth 100000 in
theorem wide_any : ∀ (d : Nat), d ≤ 100 → ∀ (D : Nat) (x : Ex) (c : List Value) (w : World), ExC D w c x → Calls Try.prog 5 #[.agg c.toArray, .int .i64 d] w (YesNo w) := by
  intro d
  induction d with
  | zero =>
    intro _ D x c w hx
    cases D with
    | zero => exact hx.elim
    | succ D =>
      obtain ⟨q, cap, rfl, hcap, hmx, -⟩ := hx
      generalize x.args.length = n at *
      simp only [exV]
      by_cases h3 : (n : Int) > 3
      · go_enter Try.func5, Try.ntmps5
        go_wp2_with fail
        go_ret
        exact ⟨⟨true, rfl⟩, (Below.refl _ _).alloc (Nat.le_refl _) _⟩
      · go_enter Try.func5, Try.ntmps5
        go_wp2_with fail
        go_ret
        exact ⟨⟨true, rfl⟩, (Below.refl _ _).alloc (Nat.le_refl _) _⟩
  | succ d ih =>
    intro hd D x c w hx
    cases D with
    | zero => exact hx.elim
    | succ D =>
      obtain ⟨q, cap, rfl, hcap, hmx, hp⟩ := hx
      have ih := ih (by omega)
      have HP : Hid (∀ (k : Nat), k < x.args.length → ∃ (p : Ex) (g o : Nat), q = some ⟨g, o, none⟩ ∧ g < w.heap.size ∧ ∃ (vq : Option Addr) (vn vc : Nat), (∀ (j : Nat) (u : Value), (exV p (.slice vq vn vc))[j]? = some u → w.cell? ⟨g, o + k * 7 + j, none⟩ = some u) ∧ (∀ V, Below w.heap.size w V → Calls Try.prog 5 #[.agg (exV p (.slice vq vn vc)).toArray, .int .i64 d] V (YesNo V))) := Lib.hid (by
        intro k hk
        obtain ⟨g, o, hq, cs, hl, hx', hu⟩ := hp k _ (List.getElem?_eq_getElem hk)
        cases D with
        | zero => exact hx'.elim
        | succ D' =>
          have hx2 := hx'
          obtain ⟨q', cap', rfl, -⟩ := hx'
          have hlt := World.block_lt_of_cell? _ _ (hu 0 _ rfl)
          exact ⟨_, g, o, hq, hlt, q', _, cap', hu, fun V hV => ih (D' + 1) _ _ V (ExC.stays _ _ _ _ _ hx2 hV)⟩)
      clear hp ih
      generalize x.args.length = n at *
      obtain ⟨w1, hw1⟩ : ∃ w1, w1 = w.alloc (.cells (exV x (.slice q n cap)).toArray 33) := ⟨_, rfl⟩
      have hb1 : Below w.heap.size w w1 := by rw [hw1]; exact (Below.refl _ _).alloc (Nat.le_refl _) _
      have hy1 : w1.heap[w.heap.size]? = some (.cells (exV x (.slice q n cap)).toArray 33 (0, 0)) := by rw [hw1]; exact heap_alloc_new _ _
      have HB1 := Lib.hid hb1
      have HY1 := Lib.hid hy1
      have HW1 := Lib.hid hw1
      clear hb1 hy1 hw1
      simp only [exV] at *
      unfold maxLen at hmx
      have k0 : ((d : Int) + 1 == 0) = false := by simp; omega
      have k0' : (((d + 1 : Nat) : Int) == 0) = false := by simp; omega
      by_cases h3 : (n : Int) > 3
      · go_enter Try.func5, Try.ntmps5
        go_wp2_with fail
        go_ret
        exact ⟨⟨true, rfl⟩, by rw [← HW1.out]; exact HB1.out⟩
      · go_enter Try.func5, Try.ntmps5
        go_wp2_with fail
        rw [← HW1.out]
        go_loopw [17] (fun vi wr => ∃ k : Nat, vi = .int .i64 k ∧ k ≤ n ∧ Below w1.heap.size w1 wr) (fun vi _ => n - (RowKit.intOf vi).toNat)
        case atStart => exact ⟨0, by rfl, by omega, Below.refl _ _⟩
        case round =>
          obtain ⟨k, rfl, hk, hb⟩ := hrel
          rename World => wA
          have HBA := Lib.hid (HB1.out.trans (hb.mono HB1.out.size))
          have HBB := Lib.hid hb
          by_cases hlt : k < n
          · obtain ⟨p, g, o, rfl, hg, vq, vn, vc, hcs, hcl⟩ := HP.out k hlt
            have HY1' := Lib.hid ((hb.block _ (heap_lt HY1.out)).trans HY1.out)
            have k1 : (0 : Int) ≤ (k : Int) := by omega
            have k2 : (k : Int) < (n : Int) := by omega
            have z0 := cell_blk (i := 0) HY1'.out
            have z1 := cell_blk (i := 1) HY1'.out
            have z2 := cell_blk (i := 2) HY1'.out
            have z3 := cell_blk (i := 3) HY1'.out
            have z4 := cell_blk (i := 4) HY1'.out
            have z5 := cell_blk (i := 5) HY1'.out
            have z6 := cell_blk (i := 6) HY1'.out
            simp at z0 z1 z2 z3 z4 z5 z6
            have a0 := cell_later HBA.out (hcs 0 _ rfl)
            have a1 := cell_later HBA.out (hcs 1 _ rfl)
            have a2 := cell_later HBA.out (hcs 2 _ rfl)
            have a3 := cell_later HBA.out (hcs 3 _ rfl)
            have a4 := cell_later HBA.out (hcs 4 _ rfl)
            have a5 := cell_later HBA.out (hcs 5 _ rfl)
            have a6 := cell_later HBA.out (hcs 6 _ rfl)
            simp only [Nat.add_zero] at a0
            have HCL := Lib.hid hcl
            clear hcs hcl hb
            go_wp2_with fail
            refine (HCL.out wA HBA.out).mono ?_
            rintro e w3 ⟨⟨r, rfl⟩, b3⟩
            have HB3 := Lib.hid (HBB.out.trans (b3.mono HBB.out.size))
            clear b3 z0 z1 z2 z3 z4 z5 z6 a0 a1 a2 a3 a4 a5 a6
            cases r with
            | true =>
              go_wp2_with fail
              go_ret
              exact ⟨⟨true, rfl⟩, HB1.out.trans (HB3.out.mono HB1.out.size)⟩
            | false =>
              go_wp2_with fail
              go_roundw
              case rel => exact ⟨k + 1, by go_num, by omega, HB3.out⟩
              case measure => simp [RowKit.intOf]; omega
          · obtain rfl : k = n := by omega
            clear hb
            go_wp2_with fail
            go_ret
            exact ⟨⟨false, rfl⟩, HBA.out⟩
end Go.Proofs.Ytlbbabojejimpaa

/- joustlaw08: number, both: expressions of numbers, and what they come to. -/
namespace Go.Proofs.Ytlbbabojejimpaa
open Go.RowKit Go.Lib

def numE (n : Int) : Ex := .mk 0 n 0 ⟨0, 0, 0⟩ []
def bothE (op : Nat) (a b : Int) : Ex := .mk op 0 0 ⟨0, 0, 0⟩ [numE a, numE b]
def notE (a : Int) : Ex := .mk 11 0 0 ⟨0, 0, 0⟩ [numE a]
theorem numE_C (n : Int) (w : World) : ExC 1 w (exV (numE n) (.slice none 0 0)) (numE n) := ⟨none, 0, rfl, Nat.le_refl _, Nat.zero_le _, fun i p h => by simp [numE, Ex.args] at h⟩
set_option maxRecDepth 100000 in
set_option maxHeartbeats 1000000 in
theorem number_any (n : Int) (w : World) : Calls Try.prog 8 #[.int .i64 n] w fun e w' => e = .returned (.agg (exV (numE n) (.slice none 0 0)).toArray) ∧ Below w.heap.size w w' := by
  go_enter Try.func8, Try.ntmps8
  go_wp2_with fail
  refine bodyPost_ret (results_cell_row rfl _ _ w.heap.size _ _ _ _ rfl (heap_alloc_new _ _) rfl rfl (by kernel_rfl)) rfl ?_
  exact ⟨rfl, (Below.refl _ _).alloc (Nat.le_refl _) _⟩
theorem numE_val (t : Tb) (xs : List Cd) (ps : List Pc) (who : Nat) (i : Int) (d : Nat) (n : Int) : valE t xs ps who i (d + 1) (numE n) = some (bndI n) := by
  rw [valE]
  rfl
theorem bothE_val (t : Tb) (xs : List Cd) (ps : List Pc) (who : Nat) (i : Int) (d op : Nat) (a b : Int) (h : 4 ≤ op ∧ op ≤ 10) : valE t xs ps who i (d + 2) (bothE op a b) = some (bndI (rawV op (bndI a) (bndI b))) := by
  have hp : partsN (bothE op a b).op = 2 := parts_two h
  rw [valE, hp, if_neg (by simp [bothE, Ex.args]), if_neg (by omega)]
  simp only [bothE, Ex.args, Ex.op, List.getElem?_cons_zero, List.getElem?_cons_succ, numE_val]
  rw [if_neg (by omega)]
theorem notE_val (t : Tb) (xs : List Cd) (ps : List Pc) (who : Nat) (i : Int) (d : Nat) (a : Int) : valE t xs ps who i (d + 2) (notE a) = some (bndI (rawV 11 (bndI a) 0)) := by
  have hp : partsN (notE a).op = 1 := rfl
  rw [valE, hp, if_neg (by simp [notE, Ex.args]), if_neg (by omega)]
  simp only [notE, Ex.args, Ex.op, List.getElem?_cons_zero, numE_val]
  rw [if_pos trivial]
/-- Two numbers side by side in memory. -/
theorem bothE_C {w : World} {g op : Nat} {a b : Int} {ty : TypeId} (hb : w.heap[g]? = some (.cells (exV (numE a) (.slice none 0 0) ++ exV (numE b) (.slice none 0 0)).toArray ty (0, 0))) : ExC 2 w (exV (bothE op a b) (.slice (some ⟨g, 0, none⟩) 2 2)) (bothE op a b) := by
  refine ⟨some ⟨g, 0, none⟩, 2, rfl, Nat.le_refl _, (by show 2 ≤ maxLen; decide), fun i p h => ?_⟩
  match i, h with
  | 0, h =>
    simp [bothE, Ex.args] at h; subst h
    refine ⟨g, 0, rfl, _, rfl, numE_C a w, fun j u hu => ?_⟩
    have hj : j < 7 := (List.getElem?_eq_some_iff.1 hu).1
    rw [cell_blk hb, List.getElem?_toArray, List.getElem?_append_left (by show _ < 7; omega)]
    rw [show 0 + 0 * 7 + j = j by omega]
    exact hu
  | 1, h =>
    simp [bothE, Ex.args] at h; subst h
    refine ⟨g, 0, rfl, _, rfl, numE_C b w, fun j u hu => ?_⟩
    rw [cell_blk hb, List.getElem?_toArray, List.getElem?_append_right (by show 7 ≤ _; omega)]
    rw [show 0 + 1 * 7 + j - (exV (numE a) (.slice none 0 0)).length = j by show 0 + 1 * 7 + j - 7 = j; omega]
    exact hu
  | i + 2, h => simp [bothE, Ex.args] at h
set_option maxHeartbeats 4000000 in
set_option maxRecDepth 100000 in
theorem both_any (op : Nat) (a b : Int) (w : World) (hop : op ≤ 255) : Calls Try.prog 11 #[.int .u8 op, .agg (exV (numE a) (.slice none 0 0)).toArray, .agg (exV (numE b) (.slice none 0 0)).toArray] w fun e w' => (∃ g, e = .returned (.agg (exV (bothE op a b) (.slice (some ⟨g, 0, none⟩) 2 2)).toArray) ∧ ExC 2 w' (exV (bothE op a b) (.slice (some ⟨g, 0, none⟩) 2 2)) (bothE op a b)) ∧ Below w.heap.size w w' := by
  have key : Calls Try.prog 11 #[.int .u8 op, .agg #[.int .u8 0, .int .i64 a, .int .u8 0, .int .u8 0, .int .u8 0, .int .u8 0, .slice none 0 0], .agg #[.int .u8 0, .int .i64 b, .int .u8 0, .int .u8 0, .int .u8 0, .int .u8 0, .slice none 0 0]] w fun e w' => (∃ g, e = .returned (.agg #[.int .u8 op, .int .i64 0, .int .u8 0, .int .u8 0, .int .u8 0, .int .u8 0, .slice (some ⟨g, 0, none⟩) 2 2]) ∧ w'.heap[g]? = some (.cells #[.int .u8 0, .int .i64 a, .int .u8 0, .int .u8 0, .int .u8 0, .int .u8 0, .slice none 0 0, .int .u8 0, .int .i64 b, .int .u8 0, .int .u8 0, .int .u8 0, .int .u8 0, .slice none 0 0] 33 (0, 0))) ∧ Below w.heap.size w w' := by
    go_enter Try.func11, Try.ntmps11
    go_wp2_with fail
    refine bodyPost_ret (results_cell_row rfl _ _ (w.heap.size + 1 + 1) _ _ _ _ rfl (by first | exact heap_older (heap_newer _ _ _ (by simp)) | exact heap_newer _ _ _ (by simp)) rfl rfl (by kernel_rfl)) rfl ?_
    refine ⟨⟨w.heap.size + 1 + 1 + 1, rfl, by first | exact heap_newer _ _ _ (by simp) | exact heap_alloc_new _ _⟩, (((((Below.refl _ w).alloc (by simp; try omega) _).alloc (by simp; try omega) _).alloc (by simp; try omega) _).alloc (by simp; try omega) _)⟩
  exact key.mono fun e w' ⟨⟨g, he, hg⟩, hb⟩ => ⟨⟨g, he, bothE_C hg⟩, hb⟩
end Go.Proofs.Ytlbbabojejimpaa
