/- joustlaw27.MixTells: the whole law, walked. -/
import Derived.Test.YtdhefefhipdlcaaMxLives
namespace Go.Proofs.Ytdhefefhipdlcaa
open Go.RowKit Go.Lib

theorem commitA_form (n : Nat) : ∃ (x : Nat) (e : Int), commitA n = .tuple #[.int .u64 (x : Int), .int .i64 e] := by
  unfold commitA; split
  · exact ⟨0, 2, rfl⟩
  · exact ⟨_, _, rfl⟩
theorem seedA_form (c0 c1 s0 s1 : Nat) : ∃ (x : Nat) (e : Int), seedA c0 c1 s0 s1 = .tuple #[.int .u64 (x : Int), .int .i64 e] := by
  unfold seedA; split
  · exact ⟨0, 2, rfl⟩
  · split
    · exact ⟨0, 9, rfl⟩
    · exact ⟨_, _, rfl⟩
theorem below_both (seed at_ n : Nat) (hat : at_ < 18446744073709551616) (hn : n < 18446744073709551616) : ∃ (v x : Nat) (er : Int),
    (∀ w, Calls Try.prog 15 #[.int .u64 (seed : Int), .int .u64 (at_ : Int), .int .u64 (n : Int)] w fun e w' => e = .returned (.tuple #[.int .u64 (v : Int), .int .u64 (x : Int), .int .i64 er]) ∧ Below w.heap.size w w') ∧
    (∀ w, Calls Try.prog 16 #[.int .u64 (seed : Int), .int .u64 (at_ : Int), .int .u64 (n : Int)] w fun e w' => e = .returned (.tuple #[.int .u64 (v : Int), .int .u64 (x : Int), .int .i64 er]) ∧ w' = w) := by
  by_cases h : n = 0
  · subst h
    exact ⟨0, 0, 2, fun w => (Below_zero seed at_ w).mono fun e w' ⟨he, hw⟩ => ⟨he, by rw [hw]; exact Below.refl _ _⟩, fun w => rBelow_zero seed at_ w⟩
  · exact ⟨_, _, 0, fun w => Below_any seed at_ n (by omega) hat hn w, fun w => rBelow_any seed at_ n (by omega) hat hn w⟩
theorem order_both (seed : Nat) (m : Int) : ∃ (l : List Int) (er : Int), l.length ≤ 1000 ∧
    (∀ w, Calls Try.prog 17 #[.int .u64 (seed : Int), .int .i64 m] w fun e w' => ∃ v, e = .returned (.tuple #[v, .int .i64 er]) ∧ IL w' w.heap.size v l ∧ Below w.heap.size w w') ∧
    (∀ w, Calls Try.prog 18 #[.int .u64 (seed : Int), .int .i64 m] w fun e w' => ∃ v, e = .returned (.tuple #[v, .int .i64 er]) ∧ IL w' w.heap.size v l ∧ Below w.heap.size w w') := by
  by_cases h : m < 0 ∨ 1000 < m
  · exact ⟨[], 2, by simp, fun w => (order_err seed m h w).mono fun e w' ⟨he, hw⟩ => ⟨_, he, IL.nil _ _, by rw [hw]; exact Below.refl _ _⟩, fun w => (rorder_err seed m h w).mono fun e w' ⟨he, hw⟩ => ⟨_, he, IL.nil _ _, by rw [hw]; exact Below.refl _ _⟩⟩
  · obtain ⟨n, rfl⟩ : ∃ n : Nat, m = (n : Int) := ⟨m.toNat, by omega⟩
    refine ⟨orderL seed n, 0, by rw [orderL_length]; omega, fun w => (order_any seed n (by omega) w).mono fun e w' ⟨he, hi, hb⟩ => ⟨_, he, ?_, hb⟩, fun w => rorder_any seed n (by omega) w⟩
    have := hi.list (Nat.le_refl _)
    rwa [orderL_length] at this

/-- The law's two boxes. -/
structure BoxT (w V : World) (c0 c1 s0 s1 : Nat) : Prop where
  b0 : V.heap[w.heap.size]? = some (.cells #[.int .u64 (c0 : Int), .int .u64 (c1 : Int)] 23 (0, 0))
  b1 : V.heap[w.heap.size + 1]? = some (.cells #[.int .u64 (s0 : Int), .int .u64 (s1 : Int)] 23 (0, 0))
  bel : Below w.heap.size w V
theorem BoxT.new (w : World) (c0 c1 s0 s1 : Nat) : BoxT w ((w.alloc (.cells #[.int .u64 (c0 : Int), .int .u64 (c1 : Int)] 23)).alloc (.cells #[.int .u64 (s0 : Int), .int .u64 (s1 : Int)] 23)) c0 c1 s0 s1 :=
  ⟨heap_older (heap_alloc_new _ _), heap_newer _ _ _ (by simp), ((Below.refl _ _).alloc (Nat.le_refl _) _).alloc (by simp) _⟩
theorem BoxT.go {w V V' : World} {c0 c1 s0 s1 : Nat} (h : BoxT w V c0 c1 s0 s1) (hb : Below V.heap.size V V') : BoxT w V' c0 c1 s0 s1 :=
  ⟨(hb.block _ (heap_lt h.b0)).trans h.b0, (hb.block _ (heap_lt h.b1)).trans h.b1, h.bel.trans (hb.mono h.bel.size)⟩
theorem BoxT.z0 {w V : World} {c0 c1 s0 s1 : Nat} (h : BoxT w V c0 c1 s0 s1) : V.cell? ⟨w.heap.size, 0, none⟩ = some (.int .u64 (c0 : Int)) := by rw [cell_blk h.b0]; rfl
theorem BoxT.z1 {w V : World} {c0 c1 s0 s1 : Nat} (h : BoxT w V c0 c1 s0 s1) : V.cell? ⟨w.heap.size, 1, none⟩ = some (.int .u64 (c1 : Int)) := by rw [cell_blk h.b0]; rfl
theorem BoxT.z2 {w V : World} {c0 c1 s0 s1 : Nat} (h : BoxT w V c0 c1 s0 s1) : V.cell? ⟨w.heap.size + 1, 0, none⟩ = some (.int .u64 (s0 : Int)) := by rw [cell_blk h.b1]; rfl
theorem BoxT.z3 {w V : World} {c0 c1 s0 s1 : Nat} (h : BoxT w V c0 c1 s0 s1) : V.cell? ⟨w.heap.size + 1, 1, none⟩ = some (.int .u64 (s1 : Int)) := by rw [cell_blk h.b1]; rfl

set_option maxHeartbeats 8000000 in
set_option maxRecDepth 100000 in
theorem mixtells_any (n c0 c1 s0 s1 seed at_ b : Nat) (m : Int) (hat : at_ < 18446744073709551616) (hb : b < 18446744073709551616) (w : World) :
    Calls Try.prog 3 #[.int .u64 (n : Int), two c0 c1, two s0 s1, .int .u64 (seed : Int), .int .u64 (at_ : Int), .int .u64 (b : Int), .int .i64 m] w fun e w' => e = .returned (.bool true) ∧ Below w.heap.size w w' := by
  have B0 := Lib.hid (((Below.refl w.heap.size w).alloc (Nat.le_refl _) (.cells #[.int .u64 (c0 : Int), .int .u64 (c1 : Int)] 23)).alloc (by simp) (.cells #[.int .u64 (s0 : Int), .int .u64 (s1 : Int)] 23))
  by_cases hm : 60 < m ∧ m ≤ 1000
  · obtain ⟨m1, m2⟩ := hm
    go_enter Try.func3, Try.ntmps3
    go_wp2_with (go_at_call 8; refine (lives_any _).mono ?_; rintro e w2 ⟨rfl, hb⟩; have HB2 := Lib.hid hb; clear hb)
    go_ret
    exact ⟨rfl, B0.out.trans (HB2.out.mono B0.out.size)⟩
  · have hC1 := fun w => commit_any n w
    have hC2 := fun w => rcommit_any n w
    obtain ⟨a, ea, hca⟩ := commitA_form n
    have hS1 := fun w => seed_any c0 c1 s0 s1 w
    have hS2 := fun w => rseed_any c0 c1 s0 s1 w
    obtain ⟨s, es, hsa⟩ := seedA_form c0 c1 s0 s1
    rw [hca] at hC1 hC2
    rw [hsa] at hS1 hS2
    obtain ⟨v, x, eb, hB1, hB2⟩ := below_both seed at_ b hat hb
    obtain ⟨l, eo, hl, hO1, hO2⟩ := order_both seed m
    have C1 := Lib.hid hC1
    have C2 := Lib.hid hC2
    have S1 := Lib.hid hS1
    have S2 := Lib.hid hS2
    have BL1 := Lib.hid hB1
    have BL2 := Lib.hid hB2
    have O1 := Lib.hid hO1
    have O2 := Lib.hid hO2
    have HL := Lib.hid hl
    have q0 : ((mixN n : Int) != (mixN n : Int)) = false := by simp
    have q1 : ((a : Int) != (a : Int)) = false := by simp
    have q2 : (ea != ea) = false := by simp
    have q3 : ((s : Int) != (s : Int)) = false := by simp
    have q4 : (es != es) = false := by simp
    have q5 : ((v : Int) != (v : Int)) = false := by simp
    have q6 : ((x : Int) != (x : Int)) = false := by simp
    have q7 : (eb != eb) = false := by simp
    have q8 : (eo == eo) = true := by simp
    clear hca hsa hC1 hC2 hS1 hS2 hB1 hB2 hO1 hO2 hl
    have X0 := Lib.hid (BoxT.new w c0 c1 s0 s1)
    by_cases m1 : 60 < m
    · have m2 : ¬ m ≤ 1000 := by omega
      clear hm hat hb
      go_enter Try.func3, Try.ntmps3
      go_wp2_with (first | (go_at_call 9; with_reducible refine (C1.out _).mono ?_; rintro e w' ⟨rfl, rfl⟩) | (go_at_call 10; with_reducible refine (C2.out _).mono ?_; rintro e w' ⟨rfl, rfl⟩))
      with_reducible refine (S1.out _).mono ?_
      rintro e w1 ⟨rfl, hb⟩
      have X1 := Lib.hid (X0.out.go hb)
      have z0 := X1.out.z0
      have z1 := X1.out.z1
      have z2 := X1.out.z2
      have z3 := X1.out.z3
      clear hb
      go_wp2_with fail
      with_reducible refine (S2.out _).mono ?_
      rintro e w2 ⟨rfl, hb⟩
      have X2 := Lib.hid (X1.out.go hb)
      clear hb z0 z1 z2 z3
      go_wp2_with (first | (go_at_call 13; with_reducible refine (mix_any _ _).mono ?_; rintro e w' ⟨rfl, rfl⟩) | (go_at_call 14; with_reducible refine (rmix_any _ _).mono ?_; rintro e w' ⟨rfl, rfl⟩))
      with_reducible refine (BL1.out _).mono ?_
      rintro e w3 ⟨rfl, hb⟩
      have X3 := Lib.hid (X2.out.go hb)
      clear hb
      go_wp2_with (go_at_call 16; with_reducible refine (BL2.out _).mono ?_; rintro e w' ⟨rfl, rfl⟩)
      with_reducible refine (O1.out _).mono ?_
      rintro e w4 ⟨v1, rfl, hi1, hb⟩
      obtain ⟨p1, k1, rfl, i1⟩ := hi1.ints
      have X4 := Lib.hid (X3.out.go hb)
      have I1 := Lib.hid i1
      clear hb hi1 i1
      go_wp2_with fail
      with_reducible refine (O2.out _).mono ?_
      rintro e w5 ⟨v2, rfl, hi2, hb⟩
      obtain ⟨p2, k2, rfl, i2⟩ := hi2.ints
      have X5 := Lib.hid (X4.out.go hb)
      have I2 := Lib.hid i2
      have I1 := Lib.hid (I1.out.below hb)
      clear hb hi2 i2
      go_wp2_with fail
      refine (same_fit _ _ _ _ _ _ _ l I1.out I2.out rfl rfl (by have := HL.out; omega)).mono ?_
      rintro e w6 ⟨rfl, hb⟩
      have X6 := Lib.hid (X5.out.go hb)
      clear hb
      go_wp2_with fail
      refine (lives_any _).mono ?_
      rintro e w7 ⟨rfl, hb⟩
      have X7 := Lib.hid (X6.out.go hb)
      clear hb
      go_wp2_with fail
      go_ret
      exact ⟨rfl, X7.out.bel⟩
    · clear hm hat hb
      go_enter Try.func3, Try.ntmps3
      go_wp2_with (first | (go_at_call 9; with_reducible refine (C1.out _).mono ?_; rintro e w' ⟨rfl, rfl⟩) | (go_at_call 10; with_reducible refine (C2.out _).mono ?_; rintro e w' ⟨rfl, rfl⟩))
      with_reducible refine (S1.out _).mono ?_
      rintro e w1 ⟨rfl, hb⟩
      have X1 := Lib.hid (X0.out.go hb)
      have z0 := X1.out.z0
      have z1 := X1.out.z1
      have z2 := X1.out.z2
      have z3 := X1.out.z3
      clear hb
      go_wp2_with fail
      with_reducible refine (S2.out _).mono ?_
      rintro e w2 ⟨rfl, hb⟩
      have X2 := Lib.hid (X1.out.go hb)
      clear hb z0 z1 z2 z3
      go_wp2_with (first | (go_at_call 13; with_reducible refine (mix_any _ _).mono ?_; rintro e w' ⟨rfl, rfl⟩) | (go_at_call 14; with_reducible refine (rmix_any _ _).mono ?_; rintro e w' ⟨rfl, rfl⟩))
      with_reducible refine (BL1.out _).mono ?_
      rintro e w3 ⟨rfl, hb⟩
      have X3 := Lib.hid (X2.out.go hb)
      clear hb
      go_wp2_with (go_at_call 16; with_reducible refine (BL2.out _).mono ?_; rintro e w' ⟨rfl, rfl⟩)
      with_reducible refine (O1.out _).mono ?_
      rintro e w4 ⟨v1, rfl, hi1, hb⟩
      obtain ⟨p1, k1, rfl, i1⟩ := hi1.ints
      have X4 := Lib.hid (X3.out.go hb)
      have I1 := Lib.hid i1
      clear hb hi1 i1
      go_wp2_with fail
      with_reducible refine (O2.out _).mono ?_
      rintro e w5 ⟨v2, rfl, hi2, hb⟩
      obtain ⟨p2, k2, rfl, i2⟩ := hi2.ints
      have X5 := Lib.hid (X4.out.go hb)
      have I2 := Lib.hid i2
      have I1 := Lib.hid (I1.out.below hb)
      clear hb hi2 i2
      go_wp2_with fail
      refine (same_fit _ _ _ _ _ _ _ l I1.out I2.out rfl rfl (by have := HL.out; omega)).mono ?_
      rintro e w6 ⟨rfl, hb⟩
      have X6 := Lib.hid (X5.out.go hb)
      clear hb
      go_wp2_with fail
      refine (lives_any _).mono ?_
      rintro e w7 ⟨rfl, hb⟩
      have X7 := Lib.hid (X6.out.go hb)
      clear hb
      go_wp2_with fail
      go_ret
      exact ⟨rfl, X7.out.bel⟩
end Go.Proofs.Ytdhefefhipdlcaa
