/- mix.Commit, Seed and the document's: walked. -/
import Derived.Test.YtdhefefhipdlcaaMxMix
namespace Go.Proofs.Ytdhefefhipdlcaa
open Go.RowKit Go.Lib

def commN (n : Nat) : Nat := mixN (mixN (mixN n))
theorem comm_lt (n : Nat) : commN n < 18446744073709551616 := mix_lt _
/-- What Commit answers. -/
def commitA (n : Nat) : Value := if n = 0 then .tuple #[.int .u64 0, .int .i64 2] else .tuple #[.int .u64 (commN n : Nat), .int .i64 0]
/-- What Seed answers. -/
def seedA (c0 c1 s0 s1 : Nat) : Value :=
  if s0 = 0 ∨ s1 = 0 ∨ c0 = c1 then .tuple #[.int .u64 0, .int .i64 2]
  else if commN s0 ≠ c0 ∨ commN s1 ≠ c1 then .tuple #[.int .u64 0, .int .i64 9]
  else .tuple #[.int .u64 (mixN (mixN s0 ^^^ mixN (mixN s1)) : Nat), .int .i64 0]

theorem commitment_any (n : Nat) (w : World) : Calls Try.prog 26 #[.int .u64 (n : Int)] w fun e w' => e = .returned (.int .u64 (commN n : Nat)) ∧ w' = w := by
  go_enter Try.func26, Try.ntmps26
  go_wp2_with (go_at_call 13; refine (mix_any _ _).mono ?_; rintro e w' ⟨rfl, rfl⟩)
  go_ret
  exact ⟨rfl, rfl⟩

theorem nat_eq_zero_yes {n : Nat} (h : n = 0) : ((n : Int) == 0) = true := by subst h; rfl
theorem nat_eq_zero_no {n : Nat} (h : ¬ n = 0) : ((n : Int) == 0) = false := by simp; omega
theorem nat_eq_no {n m : Nat} (h : ¬ n = m) : ((n : Int) == m) = false := by simp; omega
theorem nat_neq_yes {n m : Nat} (h : ¬ n = m) : ((n : Int) != m) = true := by simp; omega

set_option maxHeartbeats 1000000 in
set_option maxRecDepth 100000 in
theorem commit_any (n : Nat) (w : World) : Calls Try.prog 9 #[.int .u64 (n : Int)] w fun e w' => e = .returned (commitA n) ∧ w' = w := by
  by_cases h : n = 0
  · have q0 := nat_eq_zero_yes h
    have HR := Lib.hid (show commitA n = .tuple #[.int .u64 0, .int .i64 2] from if_pos h)
    clear h
    go_enter Try.func9, Try.ntmps9
    go_wp2
    go_ret2
    exact ⟨by rw [HR.out]; rfl, rfl⟩
  · have q0 := nat_eq_zero_no h
    have HR := Lib.hid (show commitA n = .tuple #[.int .u64 (commN n : Nat), .int .i64 0] from if_neg h)
    clear h
    go_enter Try.func9, Try.ntmps9
    go_wp2_with (go_at_call 26; refine (commitment_any _ _).mono ?_; rintro e w' ⟨rfl, rfl⟩)
    go_ret2
    exact ⟨by rw [HR.out]; rfl, rfl⟩

set_option maxHeartbeats 1000000 in
set_option maxRecDepth 100000 in
theorem rcommit_any (n : Nat) (w : World) : Calls Try.prog 10 #[.int .u64 (n : Int)] w fun e w' => e = .returned (commitA n) ∧ w' = w := by
  by_cases h : n = 0
  · have q0 := nat_eq_zero_yes h
    have HR := Lib.hid (show commitA n = .tuple #[.int .u64 0, .int .i64 2] from if_pos h)
    clear h
    go_enter Try.func10, Try.ntmps10
    go_wp2
    go_ret2
    exact ⟨by rw [HR.out]; rfl, rfl⟩
  · have q0 := nat_eq_zero_no h
    have HR := Lib.hid (show commitA n = .tuple #[.int .u64 (commN n : Nat), .int .i64 0] from if_neg h)
    clear h
    go_enter Try.func10, Try.ntmps10
    go_wp2_with (go_at_call 14; refine (rmix_any _ _).mono ?_; rintro e w' ⟨rfl, rfl⟩)
    go_ret2
    exact ⟨by rw [HR.out]; rfl, rfl⟩

/-- Two numbers in an array. -/
abbrev two (a b : Nat) : Value := .agg #[.int .u64 (a : Int), .int .u64 (b : Int)]
theorem seed_arg {c0 c1 s0 s1 : Nat} (h : s0 = 0 ∨ s1 = 0 ∨ c0 = c1) : seedA c0 c1 s0 s1 = .tuple #[.int .u64 0, .int .i64 2] := if_pos h
theorem seed_rule {c0 c1 s0 s1 : Nat} (h : ¬ (s0 = 0 ∨ s1 = 0 ∨ c0 = c1)) (h' : commN s0 ≠ c0 ∨ commN s1 ≠ c1) : seedA c0 c1 s0 s1 = .tuple #[.int .u64 0, .int .i64 9] := by
  unfold seedA; rw [if_neg h, if_pos h']
theorem seed_ok {c0 c1 s0 s1 : Nat} (h : ¬ (s0 = 0 ∨ s1 = 0 ∨ c0 = c1)) (h' : ¬ (commN s0 ≠ c0 ∨ commN s1 ≠ c1)) : seedA c0 c1 s0 s1 = .tuple #[.int .u64 (mixN (mixN s0 ^^^ mixN (mixN s1)) : Nat), .int .i64 0] := by
  unfold seedA; rw [if_neg h, if_neg h']
theorem xor_walk (a b : Nat) : bits .xor .u64 ((mixN a : Nat) : Int) ((mixN b : Nat) : Int) = ((mixN a ^^^ mixN b : Nat) : Int) := bits_xor_u64_nat _ _ (mix_lt _) (mix_lt _)

theorem rcommit_ok {n : Nat} (h : ¬ n = 0) (w : World) : Calls Try.prog 10 #[.int .u64 (n : Int)] w fun e w' => e = .returned (.tuple #[.int .u64 (commN n : Nat), .int .i64 0]) ∧ w' = w := by
  have := rcommit_any n w
  rwa [show commitA n = .tuple #[.int .u64 (commN n : Nat), .int .i64 0] from if_neg h] at this
theorem below_dr {b : Nat} {w w' : World} (h : Below b w w') (n : Nat) : Below b w (w'.drewN n) := by
  induction n with
  | zero => exact h
  | succ n ih => exact ih.drew

set_option maxHeartbeats 4000000 in
set_option maxRecDepth 100000 in
theorem seed_any (c0 c1 s0 s1 : Nat) (w : World) : Calls Try.prog 11 #[two c0 c1, two s0 s1] w fun e w' => e = .returned (seedA c0 c1 s0 s1) ∧ Below w.heap.size w w' := by
  have hB : Below w.heap.size w ((w.alloc (.cells #[.int .u64 c0, .int .u64 c1] 23)).alloc (.cells #[.int .u64 s0, .int .u64 s1] 23)) := ((Below.refl _ _).alloc (Nat.le_refl _) _).alloc (by simp) _
  have HB := Lib.hid hB
  clear hB
  by_cases h0 : s0 = 0
  · have HR := Lib.hid (seed_arg (c0 := c0) (c1 := c1) (s1 := s1) (.inl h0))
    have q0 := nat_eq_zero_yes h0
    clear h0
    go_enter Try.func11, Try.ntmps11
    go_wp2
    go_ret2
    exact ⟨by rw [HR.out]; rfl, HB.out⟩
  · by_cases h1 : s1 = 0
    · have HR := Lib.hid (seed_arg (c0 := c0) (c1 := c1) (s0 := s0) (.inr (.inl h1)))
      have q0 := nat_eq_zero_no h0
      have q1 := nat_eq_zero_yes h1
      clear h0 h1
      go_enter Try.func11, Try.ntmps11
      go_wp2
      go_ret2
      exact ⟨by rw [HR.out]; rfl, HB.out⟩
    · have q0 := nat_eq_zero_no h0
      have q1 := nat_eq_zero_no h1
      by_cases h2 : c0 = c1
      · have HR := Lib.hid (seed_arg (s0 := s0) (s1 := s1) (.inr (.inr h2)))
        subst h2
        have q2 : ((c0 : Int) == c0) = true := by simp
        clear h0 h1
        go_enter Try.func11, Try.ntmps11
        go_wp2
        go_ret2
        exact ⟨by rw [HR.out]; rfl, HB.out⟩
      · have hn : ¬ (s0 = 0 ∨ s1 = 0 ∨ c0 = c1) := by omega
        have q2 := nat_eq_no h2
        by_cases h3 : commN s0 = c0
        · have q3 : ((commN s0 : Int) != c0) = false := by rw [h3]; simp
          by_cases h4 : commN s1 = c1
          · have HR := Lib.hid (seed_ok hn (by omega))
            have q4 : ((commN s1 : Int) != c1) = false := by rw [h4]; simp
            have X := xor_walk s0 (mixN s1)
            clear h0 h1 h2 h3 h4 hn
            go_enter Try.func11, Try.ntmps11
            go_wp2
            go_quiet (first | (go_at_call 26; exact (commitment_any _ _).mono (fun _ _ h => ⟨h.1, _, h.2⟩)))
            go_wp2
            go_quiet (first | (go_at_call 13; exact (mix_any _ _).mono (fun _ _ h => ⟨h.1, _, h.2⟩)))
            go_wp2
            go_ret2
            exact ⟨by rw [HR.out]; rfl, below_dr (below_dr HB.out _) _⟩
          · have HR := Lib.hid (seed_rule hn (.inr h4))
            have q4 := nat_neq_yes h4
            clear h0 h1 h2 h3 h4 hn
            go_enter Try.func11, Try.ntmps11
            go_wp2
            go_quiet (first | (go_at_call 26; exact (commitment_any _ _).mono (fun _ _ h => ⟨h.1, _, h.2⟩)))
            go_wp2
            go_ret2
            exact ⟨by rw [HR.out]; rfl, below_dr HB.out _⟩
        · have HR := Lib.hid (seed_rule hn (.inl h3))
          have q3 := nat_neq_yes h3
          clear h0 h1 h2 h3 hn
          go_enter Try.func11, Try.ntmps11
          go_wp2
          go_quiet (first | (go_at_call 26; exact (commitment_any _ _).mono (fun _ _ h => ⟨h.1, _, h.2⟩)))
          go_wp2
          go_ret2
          exact ⟨by rw [HR.out]; rfl, below_dr HB.out _⟩

set_option maxHeartbeats 4000000 in
set_option maxRecDepth 100000 in
theorem rseed_any (c0 c1 s0 s1 : Nat) (w : World) : Calls Try.prog 12 #[two c0 c1, two s0 s1] w fun e w' => e = .returned (seedA c0 c1 s0 s1) ∧ Below w.heap.size w w' := by
  have hB : Below w.heap.size w ((w.alloc (.cells #[.int .u64 c0, .int .u64 c1] 23)).alloc (.cells #[.int .u64 s0, .int .u64 s1] 23)) := ((Below.refl _ _).alloc (Nat.le_refl _) _).alloc (by simp) _
  have HB := Lib.hid hB
  clear hB
  by_cases h0 : s0 = 0
  · have HR := Lib.hid (seed_arg (c0 := c0) (c1 := c1) (s1 := s1) (.inl h0))
    have q0 := nat_eq_zero_yes h0
    clear h0
    go_enter Try.func12, Try.ntmps12
    go_wp2
    go_ret2
    exact ⟨by rw [HR.out]; rfl, HB.out⟩
  · by_cases h1 : s1 = 0
    · have HR := Lib.hid (seed_arg (c0 := c0) (c1 := c1) (s0 := s0) (.inr (.inl h1)))
      have q0 := nat_eq_zero_no h0
      have q1 := nat_eq_zero_yes h1
      clear h0 h1
      go_enter Try.func12, Try.ntmps12
      go_wp2
      go_ret2
      exact ⟨by rw [HR.out]; rfl, HB.out⟩
    · have q0 := nat_eq_zero_no h0
      have q1 := nat_eq_zero_no h1
      by_cases h2 : c0 = c1
      · have HR := Lib.hid (seed_arg (s0 := s0) (s1 := s1) (.inr (.inr h2)))
        subst h2
        have q2 : ((c0 : Int) == c0) = true := by simp
        clear h0 h1
        go_enter Try.func12, Try.ntmps12
        go_wp2
        go_ret2
        exact ⟨by rw [HR.out]; rfl, HB.out⟩
      · have hn : ¬ (s0 = 0 ∨ s1 = 0 ∨ c0 = c1) := by omega
        have q2 := nat_eq_no h2
        have HC := Lib.hid (fun w => rcommit_ok h0 w)
        have HD := Lib.hid (fun w => rcommit_ok h1 w)
        by_cases h3 : commN s0 = c0
        · have q3 : ((commN s0 : Int) != c0) = false := by rw [h3]; simp
          by_cases h4 : commN s1 = c1
          · have HR := Lib.hid (seed_ok hn (by omega))
            have q4 : ((commN s1 : Int) != c1) = false := by rw [h4]; simp
            have X := xor_walk s0 (mixN s1)
            clear h0 h1 h2 h3 h4 hn
            go_enter Try.func12, Try.ntmps12
            go_wp2
            refine wp_loop_rounds 3 ?_
            rw [rounds_succ]
            go_wp2_with (go_at_call 10; refine (HC.out _).mono ?_; rintro e w1 ⟨rfl, rfl⟩)
            rw [rounds_succ]
            go_wp2_with (go_at_call 10; refine (HD.out _).mono ?_; rintro e w1 ⟨rfl, rfl⟩)
            rw [rounds_succ]
            go_wp2
            go_quiet (first | (go_at_call 14; exact (rmix_any _ _).mono (fun _ _ h => ⟨h.1, _, h.2⟩)))
            go_wp2
            go_ret2
            exact ⟨by rw [HR.out]; rfl, below_dr HB.out _⟩
          · have HR := Lib.hid (seed_rule hn (.inr h4))
            have q4 := nat_neq_yes h4
            clear h0 h1 h2 h3 h4 hn
            go_enter Try.func12, Try.ntmps12
            go_wp2
            refine wp_loop_rounds 3 ?_
            rw [rounds_succ]
            go_wp2_with (go_at_call 10; refine (HC.out _).mono ?_; rintro e w1 ⟨rfl, rfl⟩)
            rw [rounds_succ]
            go_wp2_with (go_at_call 10; refine (HD.out _).mono ?_; rintro e w1 ⟨rfl, rfl⟩)
            go_ret2
            exact ⟨by rw [HR.out]; rfl, HB.out⟩
        · have HR := Lib.hid (seed_rule hn (.inl h3))
          have q3 := nat_neq_yes h3
          clear h0 h1 h2 h3 hn
          go_enter Try.func12, Try.ntmps12
          go_wp2
          refine wp_loop_rounds 3 ?_
          rw [rounds_succ]
          go_wp2_with (go_at_call 10; refine (HC.out _).mono ?_; rintro e w1 ⟨rfl, rfl⟩)
          go_ret2
          exact ⟨by rw [HR.out]; rfl, HB.out⟩

end Go.Proofs.Ytdhefefhipdlcaa
