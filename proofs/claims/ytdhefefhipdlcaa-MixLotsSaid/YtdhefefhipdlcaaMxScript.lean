/- mix.Script and the document's: walked. -/
import Derived.Test.YtdhefefhipdlcaaMxRLots
namespace Go.Proofs.Ytdhefefhipdlcaa
open Go.RowKit Go.Lib

/-- An append whose run is known. -/
theorem wpList_append_ran {P : Program} {ops : Array Oper} {rest : List Oper} {o : Oper} {a : Act} {w w' : World} {Q : Exit → Act → World → Prop} (hgd : o.guard = none) (s x : Operand) (t : TypeId)
    (ho : o.op = .call { callee := .builtin .append, args := #[s, x], argTypes := #[t, t] }) {v y v' : Value} (hs : a.eval s = v) (hx : a.eval x = y)
    (hr : (Builtin.append_ #[t, t] o.type #[v, y]).run P w = .ok v' w') (h : wpList P ops Q rest (a.put o.dst v') w') : wpList P ops Q (o :: rest) a w := by
  refine wpList_plain hgd fun K hK => ?_
  unfold Oper.wp execOp
  simp only [ho, resolve, invoke, builtin, Sem.run_bind, Sem.run_pure, Result.andThen_ok, List.map_toArray, List.map_cons, List.map_nil, hs, hx, hr]
  exact hK _ _ h
/-- An own list, as it is read: nil, or at an address. -/
theorem IL.ints0 {w : World} {B : Nat} {v : Value} {xs : List Int} (h : IL w B v xs) : ∃ p c, v = .slice p xs.length c ∧ IntsAt w p xs ∧ (p = none → c = 0) := by
  rcases h.form with ⟨rfl, rfl⟩ | ⟨g, cap, rfl, -, hg⟩
  · exact ⟨none, 0, rfl, IntsAt.nil _ _, fun _ => rfl⟩
  · exact ⟨_, _, rfl, hg.ints, fun h => by cases h⟩
/-- Numbers appended onto an own list. -/
theorem app_ints (w : World) (ty B : Nat) (v : Value) (xs ys : List Int) (q : Option Addr) (c : Nat) (h : IL w B v xs) (hB : B ≤ w.heap.size) (hy : IntsAt w q ys) (hq : q = none → c = 0) (hf : (xs.length + ys.length) * 8 ≤ 140737488355328) :
    ∃ v' w', (Builtin.append_ #[32, 32] ty #[v, .slice q ys.length c]).run Try.prog w = .ok v' w' ∧ IL w' B v' (xs ++ ys) ∧ w.grownBy w' v.ownBlock := by
  obtain ⟨i0, hi, hz0, hz1, hz2⟩ := info_parts Try.info_int
  cases q with
  | none =>
    have hys : ys = [] := by
      cases ys with
      | nil => rfl
      | cons y l => obtain ⟨a, ha, -⟩ := hy 0 y rfl; cases ha
    subst hys
    rw [hq rfl]
    refine ⟨v, w, run_append_owned_none (P := Try.prog) w B 32 ty 3 i0 1 Try.underlying32 hi v xs.length _ h, by simpa using h, ⟨rfl, rfl, rfl, Nat.le_refl _, fun _ _ _ => rfl⟩⟩
  | some a =>
    obtain ⟨v', w', h1, h2, h3, -⟩ := run_append_own (P := Try.prog) w B 32 ty 3 i0 (.int .i64 0) 1 8 Try.underlying32 hi hz0 hz1 hz2 rfl (by decide) v xs.length _ h a ys.length c (ys.map iv) (by simp)
      (fun j u hu => by
        rw [List.getElem?_map] at hu
        cases hj : ys[j]? with
        | none => rw [hj] at hu; cases hu
        | some y =>
          rw [hj] at hu; cases hu
          obtain ⟨a', ha, hc⟩ := hy j y hj
          cases ha; exact hc)
      (fun u hu => by obtain ⟨x, -, rfl⟩ := List.mem_map.1 hu; rfl) (by unfold maxLen; omega) hf hB
    refine ⟨v', w', h1, ?_, h3⟩
    unfold IL
    rw [List.length_append, List.map_append]
    exact h2

/-- The lots of an order of a size from a seed. -/
def lotL (seed k : Nat) : List Int := (lotsI (upI k) (orderL seed k)).getD []
theorem lotL_length (seed k : Nat) : (lotL seed k).length = k := by
  have hg := orderL_good seed k
  obtain ⟨r, hr⟩ := lots_yes (upI_sorted k) hg.nodup (fun x hx => upI_mem.2 (hg.bd x hx))
  have hb := lots_bd (upI_sorted k) hr
  rw [hg.len] at hb
  unfold lotL; rw [hr]; exact hb.1
theorem lotL_is (seed k : Nat) : lotsI (upI k) (orderL seed k) = some (lotL seed k) := by
  have hg := orderL_good seed k
  obtain ⟨r, hr⟩ := lots_yes (upI_sorted k) hg.nodup (fun x hx => upI_mem.2 (hg.bd x hx))
  unfold lotL; rw [hr]; rfl
theorem order_go (seed k : Nat) (hk : k ≤ 1000) (w : World) : Calls Try.prog 17 #[.int .u64 (seed : Int), .int .i64 (k : Int)] w fun e w' => ∃ p c, e = .returned (.tuple #[.slice p k c, .int .i64 0]) ∧ IntsAt w' p (orderL seed k) ∧ Below w.heap.size w w' :=
  (order_any seed k hk w).mono fun _ _ ⟨he, hi, hb⟩ => ⟨_, _, he, hi.ints, hb⟩
theorem rorder_go (seed k : Nat) (hk : k ≤ 1000) (w : World) : Calls Try.prog 18 #[.int .u64 (seed : Int), .int .i64 (k : Int)] w fun e w' => ∃ p c, e = .returned (.tuple #[.slice p k c, .int .i64 0]) ∧ IntsAt w' p (orderL seed k) ∧ Below w.heap.size w w' :=
  (rorder_any seed k hk w).mono fun _ _ ⟨v, he, hi, hb⟩ => by
    obtain ⟨p, c, rfl, h⟩ := hi.ints
    rw [orderL_length] at he
    exact ⟨p, c, he, h, hb⟩
theorem lots_go (seed k : Nat) (hk : k ≤ 1000) (p : Option Addr) (c : Nat) (w : World) (h : IntsAt w p (orderL seed k)) : Calls Try.prog 20 #[.slice p k c] w fun e w' => ∃ v, e = .returned (.tuple #[v, .int .i64 0]) ∧ IL w' w.heap.size v (lotL seed k) ∧ Below w.heap.size w w' := by
  have := lots_any p c _ w h (by rw [orderL_length]; exact hk)
  rw [orderL_length, lotL_is] at this
  exact this
theorem rlots_go (seed k : Nat) (hk : k ≤ 1000) (p : Option Addr) (c : Nat) (w : World) (h : IntsAt w p (orderL seed k)) : Calls Try.prog 21 #[.slice p k c] w fun e w' => ∃ v, e = .returned (.tuple #[v, .int .i64 0]) ∧ IL w' w.heap.size v (lotL seed k) ∧ Below w.heap.size w w' := by
  have := rlots_any p c _ w h (by rw [orderL_length]; exact hk)
  rw [orderL_length, lotL_is] at this
  exact this
abbrev twoI (a b : Int) : Value := .agg #[.int .i64 a, .int .i64 b]
/-- A size that may not be. -/
def badN (n : Int) : Prop := n < 0 ∨ 1000 < n

set_option maxHeartbeats 8000000 in
set_option maxRecDepth 100000 in
theorem script_bad0 (seed : Nat) (n0 n1 : Int) (h0 : badN n0) (w : World) :
    Calls Try.prog 24 #[.int .u64 (seed : Int), twoI n0 n1] w fun e w' => e = .returned (.tuple #[.slice none 0 0, .int .i64 2]) ∧ Below w.heap.size w w' := by
  have HO := Lib.hid (fun w => order_err seed n0 h0 w)
  have ix : ∀ w, (Instr.index 37 (.agg #[.int .i64 n0, .int .i64 n1]) (.int .i64 0)).run Try.prog w = .ok (.int .i64 n0) w := fun _ => by kernel_rfl
  have HB := Lib.hid ((Below.refl w.heap.size w).alloc (Nat.le_refl _) (.cells #[.int .i64 n0, .int .i64 n1] 37))
  clear h0
  go_enter Try.func24, Try.ntmps24
  go_wp2_with fail
  refine wp_loop_rounds 3 ?_
  rw [rounds_succ]
  go_wp2_with fail
  with_reducible refine (HO.out _).mono ?_
  rintro e w' ⟨rfl, rfl⟩
  go_wp2_with fail
  go_ret2
  exact ⟨rfl, HB.out⟩
/-! the other ways -/
set_option maxHeartbeats 8000000 in
set_option maxRecDepth 100000 in
theorem script_bad1 (seed k0 : Nat) (n1 : Int) (b0 : k0 ≤ 1000) (h1 : badN n1) (w : World) :
    Calls Try.prog 24 #[.int .u64 (seed : Int), twoI (k0 : Int) n1] w fun e w' => e = .returned (.tuple #[.slice none 0 0, .int .i64 2]) ∧ Below w.heap.size w w' := by
  have ix : ∀ w, (Instr.index 37 (.agg #[.int .i64 (k0 : Int), .int .i64 n1]) (.int .i64 0)).run Try.prog w = .ok (.int .i64 (k0 : Int)) w := fun _ => by kernel_rfl
  have iy : ∀ w, (Instr.index 37 (.agg #[.int .i64 (k0 : Int), .int .i64 n1]) (.int .i64 1)).run Try.prog w = .ok (.int .i64 n1) w := fun _ => by kernel_rfl
  have HB := Lib.hid ((Below.refl w.heap.size w).alloc (Nat.le_refl _) (.cells #[.int .i64 (k0 : Int), .int .i64 n1] 37))
  have HO0 := Lib.hid (fun w => order_go seed k0 b0 w)
  have HL0 := Lib.hid (fun p c w h => lots_go seed k0 b0 p c w h)
  have HO1 := Lib.hid (fun w => order_err (mixN seed) n1 h1 w)
  clear h1
  go_enter Try.func24, Try.ntmps24
  go_wp2_with fail
  refine wp_loop_rounds 3 ?_
  rw [rounds_succ]
  go_wp2_with fail
  with_reducible refine (HO0.out _).mono ?_
  rintro e a0 ⟨p0, c0, rfl, io0, bo0⟩
  have HBA0 := Lib.hid (HB.out.trans (bo0.mono HB.out.size))
  go_wp2_with fail
  with_reducible refine (HL0.out _ _ _ io0).mono ?_
  rintro e l0 ⟨v0, rfl, il0, bl0⟩
  obtain ⟨q0, d0, rfl, ii0, iz0⟩ := il0.ints0
  have HBL0 := Lib.hid (HBA0.out.trans (bl0.mono HBA0.out.size))
  have ll0 := lotL_length seed k0
  obtain ⟨y0, w0, ra0, ia0, ga0⟩ := app_ints l0 32 w.heap.size (.slice none 0 0) [] (lotL seed k0) q0 d0 (IL.nil _ _) HBL0.out.size ii0 iz0 (by rw [ll0]; simp; omega)
  have IA0 := Lib.hid ia0
  have HBB0 := Lib.hid (HBL0.out.grown ga0 HBL0.out.size (fun j e => by cases e))
  rw [ll0] at ra0 ⊢
  clear io0 bo0 il0 bl0 ii0 iz0 ia0 ga0
  go_wp2_with (at_builtin; refine wpList_append_ran rfl _ _ 32 rfl rfl rfl ra0 ?_)
  go_wp2_with (go_at_call 13; with_reducible refine (mix_any _ _).mono ?_; rintro e w' ⟨rfl, rfl⟩)
  rw [rounds_succ]
  go_wp2_with fail
  with_reducible refine (HO1.out _).mono ?_
  rintro e w' ⟨rfl, rfl⟩
  go_wp2_with fail
  go_ret2
  exact ⟨rfl, HBB0.out⟩

set_option maxHeartbeats 8000000 in
set_option maxRecDepth 100000 in
theorem script_ok (seed k0 k1 : Nat) (b0 : k0 ≤ 1000) (b1 : k1 ≤ 1000) (w : World) :
    Calls Try.prog 24 #[.int .u64 (seed : Int), twoI (k0 : Int) (k1 : Int)] w fun e w' => ∃ v, e = .returned (.tuple #[v, .int .i64 0]) ∧ IL w' w.heap.size v (lotL seed k0 ++ lotL (mixN seed) k1) ∧ Below w.heap.size w w' := by
  have ix : ∀ w, (Instr.index 37 (.agg #[.int .i64 (k0 : Int), .int .i64 (k1 : Int)]) (.int .i64 0)).run Try.prog w = .ok (.int .i64 (k0 : Int)) w := fun _ => by kernel_rfl
  have iy : ∀ w, (Instr.index 37 (.agg #[.int .i64 (k0 : Int), .int .i64 (k1 : Int)]) (.int .i64 1)).run Try.prog w = .ok (.int .i64 (k1 : Int)) w := fun _ => by kernel_rfl
  have HB := Lib.hid ((Below.refl w.heap.size w).alloc (Nat.le_refl _) (.cells #[.int .i64 (k0 : Int), .int .i64 (k1 : Int)] 37))
  have HO0 := Lib.hid (fun w => order_go seed k0 b0 w)
  have HL0 := Lib.hid (fun p c w h => lots_go seed k0 b0 p c w h)
  have HO1 := Lib.hid (fun w => order_go (mixN seed) k1 b1 w)
  have HL1 := Lib.hid (fun p c w h => lots_go (mixN seed) k1 b1 p c w h)
  go_enter Try.func24, Try.ntmps24
  go_wp2_with fail
  refine wp_loop_rounds 3 ?_
  rw [rounds_succ]
  go_wp2_with fail
  with_reducible refine (HO0.out _).mono ?_
  rintro e a0 ⟨p0, c0, rfl, io0, bo0⟩
  have HBA0 := Lib.hid (HB.out.trans (bo0.mono HB.out.size))
  go_wp2_with fail
  with_reducible refine (HL0.out _ _ _ io0).mono ?_
  rintro e l0 ⟨v0, rfl, il0, bl0⟩
  obtain ⟨q0, d0, rfl, ii0, iz0⟩ := il0.ints0
  have HBL0 := Lib.hid (HBA0.out.trans (bl0.mono HBA0.out.size))
  have ll0 := lotL_length seed k0
  obtain ⟨y0, w0, ra0, ia0, ga0⟩ := app_ints l0 32 w.heap.size (.slice none 0 0) [] (lotL seed k0) q0 d0 (IL.nil _ _) HBL0.out.size ii0 iz0 (by rw [ll0]; simp; omega)
  have IA0 := Lib.hid ia0
  have HBB0 := Lib.hid (HBL0.out.grown ga0 HBL0.out.size (fun j e => by cases e))
  rw [ll0] at ra0 ⊢
  clear io0 bo0 il0 bl0 ii0 iz0 ia0 ga0
  go_wp2_with (at_builtin; refine wpList_append_ran rfl _ _ 32 rfl rfl rfl ra0 ?_)
  go_wp2_with (go_at_call 13; with_reducible refine (mix_any _ _).mono ?_; rintro e w' ⟨rfl, rfl⟩)
  rw [rounds_succ]
  go_wp2_with fail
  with_reducible refine (HO1.out _).mono ?_
  rintro e a1 ⟨p1, c1, rfl, io1, bo1⟩
  have HBA1 := Lib.hid (HBB0.out.trans (bo1.mono HBB0.out.size))
  have IA0 := Lib.hid (IA0.out.below bo1)
  go_wp2_with fail
  with_reducible refine (HL1.out _ _ _ io1).mono ?_
  rintro e l1 ⟨v1, rfl, il1, bl1⟩
  obtain ⟨q1, d1, rfl, ii1, iz1⟩ := il1.ints0
  have HBL1 := Lib.hid (HBA1.out.trans (bl1.mono HBA1.out.size))
  have IA0 := Lib.hid (IA0.out.below bl1)
  have ll1 := lotL_length (mixN seed) k1
  obtain ⟨y1, w1, ra1, ia1, ga1⟩ := app_ints l1 32 w.heap.size y0 (lotL seed k0) (lotL (mixN seed) k1) q1 d1 (by simpa using IA0.out) HBL1.out.size ii1 iz1 (by rw [ll1]; rw [ll0]; omega)
  have IA1 := Lib.hid ia1
  have HBB1 := Lib.hid (HBL1.out.grown ga1 HBL1.out.size (IA0.out.block))
  rw [ll1] at ra1 ⊢
  clear io1 bo1 il1 bl1 ii1 iz1 ia1 ga1
  go_wp2_with (at_builtin; refine wpList_append_ran rfl _ _ 32 rfl rfl rfl ra1 ?_)
  go_wp2_with (go_at_call 13; with_reducible refine (mix_any _ _).mono ?_; rintro e w' ⟨rfl, rfl⟩)
  rw [rounds_succ]
  go_wp2
  go_ret2
  exact ⟨_, rfl, by simpa using IA1.out, HBB1.out⟩

end Go.Proofs.Ytdhefefhipdlcaa
