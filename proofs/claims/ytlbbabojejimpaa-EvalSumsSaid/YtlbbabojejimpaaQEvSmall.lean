import Derived.Test.YtlbbabojejimpaaQEvCount
import Derived.Deep.QuietTactic
import Derived.BigQuiet
/- eval: how many parts, life, one or none, bounds; might.Attack of whatever number. -/
namespace Go.Proofs.Ytlbbabojejimpaa
open Go.RowKit Go.Lib

theorem bl_drewN {B : Nat} {a W : World} (h : Below B a W) (n : Nat) : Below B a (W.drewN n) := h.trans ⟨rfl, rfl, rfl, Nat.le_refl _, fun _ _ => rfl⟩
/-- How many parts an expression has. -/
def partsN (op : Nat) : Nat := if 4 ≤ op ∧ op ≤ 10 then 2 else if op = 11 then 1 else 0
set_option maxHeartbeats 4000000 in
theorem parts_any (op : Nat) (w : World) : Calls Try.prog 23 #[.int .u8 op] w fun e w' => e = .returned (.int .i64 (partsN op)) ∧ w' = w := by
  by_cases h12 : op < 12
  · rcases (show op = 0 ∨ op = 1 ∨ op = 2 ∨ op = 3 ∨ op = 4 ∨ op = 5 ∨ op = 6 ∨ op = 7 ∨ op = 8 ∨ op = 9 ∨ op = 10 ∨ op = 11 by omega) with rfl | rfl | rfl | rfl | rfl | rfl | rfl | rfl | rfl | rfl | rfl | rfl
    all_goals
      go_enter Try.func23, Try.ntmps23
      go_wp2_with fail
      go_ret
      exact ⟨rfl, rfl⟩
  · have hp : partsN op = 0 := by unfold partsN; rw [if_neg (by omega), if_neg (by omega)]
    rw [hp]
    have e4 : ((op : Int) == 4) = false := by simp; omega
    have e5 : ((op : Int) == 5) = false := by simp; omega
    have e6 : ((op : Int) == 6) = false := by simp; omega
    have e7 : ((op : Int) == 7) = false := by simp; omega
    have e8 : ((op : Int) == 8) = false := by simp; omega
    have e9 : ((op : Int) == 9) = false := by simp; omega
    have e10 : ((op : Int) == 10) = false := by simp; omega
    have e11 : ((op : Int) == 11) = false := by simp; omega
    clear h12 hp
    go_enter Try.func23, Try.ntmps23
    go_wp2_with fail
    go_ret
    exact ⟨rfl, rfl⟩
def oneI (b : Bool) : Int := if b = true then 1 else 0
theorem one_any (b : Bool) (w : World) : Calls Try.prog 27 #[.bool b] w fun e w' => e = .returned (.int .i64 (oneI b)) ∧ w' = w := by
  cases b
  all_goals
    go_enter Try.func27, Try.ntmps27
    go_wp2_with fail
    go_ret
    exact ⟨rfl, rfl⟩
def bndI (n : Int) : Int := max (-99999) (min n 99999)
theorem ebounded_any (n : Int) (w : World) : Calls Try.prog 28 #[.int .i64 n] w fun e w' => e = .returned (.int .i64 (bndI n)) ∧ w' = w := by
  unfold bndI
  go_enter Try.func28, Try.ntmps28
  go_wp2_with fail
  go_ret
  exact ⟨rfl, rfl⟩
def lifeN (t : Tb) (who side : Nat) : Int := if side = 1 then (if who = 0 then t.l1 else t.l0) else if side = 2 then t.l0 + t.l1 else (if who = 0 then t.l0 else t.l1)
set_option maxHeartbeats 4000000 in
set_option maxRecDepth 100000 in
theorem elife_any (t : Tb) (who side : Nat) (w : World) (hL : LifeOk t) (hw : who ≤ 1) : Calls Try.prog 24 #[.agg t.row, .int .u8 who, .int .u8 side] w fun e w' => e = .returned (.int .i64 (lifeN t who side)) ∧ Below w.heap.size w w' := by
  have h0 := hL.l0
  have h1 := hL.l1
  have hoth := Lib.hid fun W => eother_any who W hw
  have uw0 : IntKind.u8.wrap 0 = 0 := by kernel_rfl
  have uw1 : IntKind.u8.wrap 1 = 1 := by kernel_rfl
  clear hL
  obtain ⟨w0, hw0⟩ : ∃ w0, w0 = w.alloc (.cells t.row 28) := ⟨_, rfl⟩
  have hb0 : Below w.heap.size w w0 := by rw [hw0]; exact (Below.refl _ _).alloc (Nat.le_refl _) _
  have hx0 : w0.heap[w.heap.size]? = some (.cells t.row 28 (0, 0)) := by rw [hw0]; exact heap_alloc_new _ _
  have HB0 := Lib.hid hb0
  have HX0 := Lib.hid hx0
  have HW0 := Lib.hid hw0
  clear hb0 hx0 hw0
  simp only [Tb.row] at *
  have y0 := cell_blk (i := 0) HX0.out
  have y1 := cell_blk (i := 1) HX0.out
  have y2 := cell_blk (i := 2) HX0.out
  have y3 := cell_blk (i := 3) HX0.out
  have y4 := cell_blk (i := 4) HX0.out
  have y5 := cell_blk (i := 5) HX0.out
  have y6 := cell_blk (i := 6) HX0.out
  have y7 := cell_blk (i := 7) HX0.out
  have y8 := cell_blk (i := 8) HX0.out
  have y9 := cell_blk (i := 9) HX0.out
  simp at y0 y1 y2 y3 y4 y5 y6 y7 y8 y9
  by_cases s1 : side = 1
  · subst s1
    rcases (show who = 0 ∨ who = 1 by omega) with rfl | rfl
    all_goals
      go_enter Try.func24, Try.ntmps24
      go_wp2_with fail
      rw [← HW0.out]
      refine (hoth.out w0).mono ?_
      rintro e w1 ⟨rfl, rfl⟩
      go_wp2_with fail
      go_ret
      exact ⟨rfl, HB0.out⟩
  · have e1 : ((side : Int) == 1) = false := by simp; omega
    by_cases s2 : side = 2
    · subst s2
      rcases (show who = 0 ∨ who = 1 by omega) with rfl | rfl
      all_goals
        go_enter Try.func24, Try.ntmps24
        go_wp2_with fail
        rw [← HW0.out]
        go_quiet (refine Calls.quiet_of_same (hoth.out _))
        go_wp2_with fail
        go_ret
        refine ⟨?_, bl_drewN HB0.out _⟩
        first | rfl | (simp [lifeN]; done) | (simp [lifeN]; omega)
    · have e2 : ((side : Int) == 2) = false := by simp; omega
      have hl : lifeN t who side = if who = 0 then t.l0 else t.l1 := by unfold lifeN; rw [if_neg s1, if_neg s2]
      rw [hl]
      clear hl s1 s2
      rcases (show who = 0 ∨ who = 1 by omega) with rfl | rfl
      all_goals
        go_enter Try.func24, Try.ntmps24
        go_wp2_with fail
        go_ret
        refine ⟨?_, by rw [← HW0.out]; exact HB0.out⟩
        first | rfl | simp
def attI (xs : List Cd) (ps : List Pc) (i : Int) : Int := if 0 ≤ i ∧ i < ps.length then (match ps[i.toNat]? with
  | some p => attackA xs ps p i.toNat
  | none => 0) else 0
theorem attI_bd {xs : List Cd} {ps : List Pc} {i : Int} (hG : GoodB xs ps) : 0 ≤ attI xs ps i ∧ attI xs ps i ≤ 99999 := by
  unfold attI
  split
  · split
    · rename_i p hp
      have h := (hG.one p (List.mem_of_getElem? hp)).ak
      have h1 := attack_ge (xs := xs) (ps := ps) (p := p) (id := i.toNat) (by omega)
      refine ⟨Int.le_trans ?_ h1.1, h1.2.1⟩
      unfold bareN
      omega
    · omega
  · omega
set_option maxHeartbeats 4000000 in
set_option maxRecDepth 100000 in
theorem attack_int (t : Tb) (xs : List Cd) (ps : List Pc) (i : Int) (w : World) (hT : TabIn w t xs ps) (hL : LifeOk t) (hG : GoodB xs ps) (hf : FewIn xs) : Calls Try.prog 26 #[.agg t.row, .int .i64 i] w fun e w' => e = .returned (.int .i64 (attI xs ps i)) ∧ Below w.heap.size w w' := by
  have hnp := hT.np.1
  by_cases hi : 0 ≤ i ∧ i < ps.length
  · obtain ⟨k, rfl⟩ : ∃ k : Nat, i = k := ⟨i.toNat, by omega⟩
    have hp : ps[k]? = some (ps[k]'(by omega)) := List.getElem?_eq_getElem _
    have e : attI xs ps (k : Int) = attackA xs ps (ps[k]'(by omega)) k := by
      unfold attI
      rw [if_pos hi, Int.toNat_natCast, hp]
    rw [e]
    exact attack_may t xs ps k _ w hT hL hG hp hf
  · have e : attI xs ps i = 0 := by unfold attI; rw [if_neg hi]
    rw [e]
    have hmay := Lib.hid fun (W : World) (hb : Below w.heap.size w W) => bmay_yes t xs ps W (hT.below hb) hL hG
    have hthi := Lib.hid fun (W : World) => might_there_no t i W (by rw [hnp]; exact hi)
    obtain ⟨w0, hw0⟩ : ∃ w0, w0 = (w.alloc (.cells t.row 28)).alloc (.cells #[.int .i64 i] 3) := ⟨_, rfl⟩
    have hb0 : Below w.heap.size w w0 := by rw [hw0]; exact ((Below.refl _ _).alloc (Nat.le_refl _) _).alloc (by simp) _
    have hx0 : w0.heap[w.heap.size]? = some (.cells t.row 28 (0, 0)) := by rw [hw0]; exact heap_older (heap_alloc_new _ _)
    have hy0 : w0.heap[w.heap.size + 1]? = some (.cells #[.int .i64 i] 3 (0, 0)) := by rw [hw0]; exact heap_newer _ _ _ (by simp)
    have HB0 := Lib.hid hb0
    have HX0 := Lib.hid hx0
    have HY0 := Lib.hid hy0
    have HW0 := Lib.hid hw0
    clear hT hL hG hi hb0 hx0 hy0 hw0 e hnp
    simp only [Tb.row] at *
    go_enter Try.func26, Try.ntmps26
    go_wp2_with fail
    rw [← HW0.out]
    refine (hmay.out w0 HB0.out).mono ?_
    rintro e w1 ⟨rfl, b1⟩
    have B1 := Lib.hid (HB0.out.trans (b1.mono HB0.out.size))
    have X1 := Lib.hid ((b1.block _ (heap_lt HX0.out)).trans HX0.out)
    have Y1 := Lib.hid ((b1.block _ (heap_lt HY0.out)).trans HY0.out)
    clear b1
    have y0 := cell_blk (i := 0) X1.out
    have y1 := cell_blk (i := 1) X1.out
    have y2 := cell_blk (i := 2) X1.out
    have y3 := cell_blk (i := 3) X1.out
    have y4 := cell_blk (i := 4) X1.out
    have y5 := cell_blk (i := 5) X1.out
    have y6 := cell_blk (i := 6) X1.out
    have y7 := cell_blk (i := 7) X1.out
    have y8 := cell_blk (i := 8) X1.out
    have y9 := cell_blk (i := 9) X1.out
    simp at y0 y1 y2 y3 y4 y5 y6 y7 y8 y9
    have z0 := cell_blk (i := 0) Y1.out
    simp at z0
    go_wp2_with fail
    refine (hthi.out w1).mono ?_
    rintro e w2 ⟨rfl, b2⟩
    have B2 := Lib.hid (B1.out.trans (b2.mono B1.out.size))
    clear b2 y0 y1 y2 y3 y4 y5 y6 y7 y8 y9 z0
    go_wp2_with fail
    go_ret
    exact ⟨rfl, B2.out⟩
end Go.Proofs.Ytlbbabojejimpaa
