/- joustlaw27.MixSeed: the whole law, walked. -/
import Derived.Test.YtdhefefhipdlcaaMxLives
namespace Go.Proofs.Ytdhefefhipdlcaa
open Go.RowKit Go.Lib

theorem comm_inj {a b : Nat} (ha : a < 18446744073709551616) (hb : b < 18446744073709551616) (h : commN a = commN b) : a = b :=
  mix_inj _ _ ha hb (mix_inj _ _ (mix_lt _) (mix_lt _) (mix_inj _ _ (mix_lt _) (mix_lt _) h))
theorem commit_zero (w : World) : Calls Try.prog 9 #[.int .u64 0] w fun e w' => e = .returned (.tuple #[.int .u64 0, .int .i64 2]) ∧ w' = w := commit_any 0 w
theorem commit_ok {n : Nat} (h : ¬ n = 0) (w : World) : Calls Try.prog 9 #[.int .u64 (n : Int)] w fun e w' => e = .returned (.tuple #[.int .u64 (commN n : Nat), .int .i64 0]) ∧ w' = w := by
  have := commit_any n w
  rwa [show commitA n = .tuple #[.int .u64 (commN n : Nat), .int .i64 0] from if_neg h] at this
/-- What Seed's error is. -/
def seedE (c0 c1 s0 s1 : Nat) : Int := if s0 = 0 ∨ s1 = 0 ∨ c0 = c1 then 2 else if commN s0 ≠ c0 ∨ commN s1 ≠ c1 then 9 else 0
theorem seed_tells (c0 c1 s0 s1 : Nat) (w : World) : Calls Try.prog 11 #[two c0 c1, two s0 s1] w fun e w' => ∃ x : Nat, e = .returned (.tuple #[.int .u64 (x : Int), .int .i64 (seedE c0 c1 s0 s1)]) ∧ Below w.heap.size w w' := by
  refine (seed_any c0 c1 s0 s1 w).mono fun e w' ⟨he, hb⟩ => ?_
  unfold seedA at he
  unfold seedE
  by_cases h : s0 = 0 ∨ s1 = 0 ∨ c0 = c1
  · rw [if_pos h] at he ⊢; exact ⟨0, he, hb⟩
  · rw [if_neg h] at he ⊢
    by_cases h' : commN s0 ≠ c0 ∨ commN s1 ≠ c1
    · rw [if_pos h'] at he ⊢; exact ⟨0, he, hb⟩
    · rw [if_neg h'] at he ⊢; exact ⟨_, he, hb⟩

set_option maxHeartbeats 8000000 in
set_option maxRecDepth 100000 in
theorem mixseed_zero (s0 s1 o : Nat) (h : s0 = 0 ∨ s1 = 0) (w : World) :
    Calls Try.prog 7 #[two s0 s1, .int .u64 (o : Int)] w fun e w' => e = .returned (.bool true) ∧ Below w.heap.size w w' := by
  have hb0 := Lib.hid ((Below.refl w.heap.size w).alloc (Nat.le_refl _) (.cells #[.int .u64 (s0 : Int), .int .u64 (s1 : Int)] 23))
  by_cases h0 : s0 = 0
  · subst h0
    by_cases h1 : s1 = 0
    · subst h1
      go_enter Try.func7, Try.ntmps7
      go_wp2_with (first | (go_at_call 9; with_reducible refine (commit_zero _).mono ?_; rintro e w' ⟨rfl, rfl⟩) | (go_at_call 8; refine (lives_any _).mono ?_; rintro e w2 ⟨rfl, hb⟩; have HB2 := Lib.hid hb; clear hb))
      go_ret
      exact ⟨rfl, hb0.out.trans (HB2.out.mono (by simp))⟩
    · have H1 := Lib.hid (fun w => commit_ok h1 w)
      go_enter Try.func7, Try.ntmps7
      go_wp2_with (first | (go_at_call 9; with_reducible refine (commit_zero _).mono ?_; rintro e w' ⟨rfl, rfl⟩) | (go_at_call 9; with_reducible refine (H1.out _).mono ?_; rintro e w' ⟨rfl, rfl⟩) | (go_at_call 8; refine (lives_any _).mono ?_; rintro e w2 ⟨rfl, hb⟩; have HB2 := Lib.hid hb; clear hb))
      go_ret
      exact ⟨rfl, hb0.out.trans (HB2.out.mono (by simp))⟩
  · obtain rfl : s1 = 0 := by omega
    have H0 := Lib.hid (fun w => commit_ok h0 w)
    have q0 := nat_eq_zero_no h0
    clear h h0
    go_enter Try.func7, Try.ntmps7
    go_wp2_with (first | (go_at_call 9; with_reducible refine (commit_zero _).mono ?_; rintro e w' ⟨rfl, rfl⟩) | (go_at_call 9; with_reducible refine (H0.out _).mono ?_; rintro e w' ⟨rfl, rfl⟩) | (go_at_call 8; refine (lives_any _).mono ?_; rintro e w2 ⟨rfl, hb⟩; have HB2 := Lib.hid hb; clear hb))
    go_ret
    exact ⟨rfl, hb0.out.trans (HB2.out.mono (by simp))⟩

/-- The two secrets' own box. -/
structure BoxS (w V : World) (s0 s1 : Nat) : Prop where
  blk : V.heap[w.heap.size]? = some (.cells #[.int .u64 (s0 : Int), .int .u64 (s1 : Int)] 23 (0, 0))
  bel : Below w.heap.size w V
theorem BoxS.new (w : World) (s0 s1 : Nat) : BoxS w (w.alloc (.cells #[.int .u64 (s0 : Int), .int .u64 (s1 : Int)] 23)) s0 s1 := ⟨heap_alloc_new _ _, (Below.refl _ _).alloc (Nat.le_refl _) _⟩
theorem BoxS.go {w V V' : World} {s0 s1 : Nat} (h : BoxS w V s0 s1) (hb : Below V.heap.size V V') : BoxS w V' s0 s1 := ⟨(hb.block _ (heap_lt h.blk)).trans h.blk, h.bel.trans (hb.mono h.bel.size)⟩
theorem BoxS.z0 {w V : World} {s0 s1 : Nat} (h : BoxS w V s0 s1) : V.cell? ⟨w.heap.size, 0, none⟩ = some (.int .u64 (s0 : Int)) := by rw [cell_blk h.blk]; rfl
theorem BoxS.z1 {w V : World} {s0 s1 : Nat} (h : BoxS w V s0 s1) : V.cell? ⟨w.heap.size, 1, none⟩ = some (.int .u64 (s1 : Int)) := by rw [cell_blk h.blk]; rfl

set_option maxHeartbeats 8000000 in
set_option maxRecDepth 100000 in
theorem mixseed_same (s o : Nat) (h0 : ¬ s = 0) (w : World) :
    Calls Try.prog 7 #[two s s, .int .u64 (o : Int)] w fun e w' => e = .returned (.bool true) ∧ Below w.heap.size w w' := by
  have BX := Lib.hid (BoxS.new w s s)
  have H0 := Lib.hid (fun w => commit_ok h0 w)
  have HS := Lib.hid (fun w => seed_any (commN s) (commN s) s s w)
  rw [seed_arg (.inr (.inr rfl))] at HS
  have q0 := nat_eq_zero_no h0
  have q1 : ((s : Int) == (s : Int)) = true := by simp
  generalize commN s = a at *
  have q2 : ((a : Int) == (a : Int)) = true := by simp
  clear h0
  go_enter Try.func7, Try.ntmps7
  go_wp2_with (go_at_call 9; with_reducible refine (H0.out _).mono ?_; rintro e w' ⟨rfl, rfl⟩)
  refine (HS.out _).mono ?_
  rintro e w1 ⟨rfl, hb⟩
  have BX1 := Lib.hid (BX.out.go hb)
  have z0 := BX1.out.z0
  have z1 := BX1.out.z1
  clear hb
  go_wp2_with (go_at_call 8; refine (lives_any _).mono ?_; rintro e w2 ⟨rfl, hb⟩; have HB2 := Lib.hid hb; clear hb)
  go_ret
  exact ⟨rfl, BX1.out.bel.trans (HB2.out.mono BX1.out.bel.size)⟩

/-- What the law wants of Seed with another second secret. -/
def wantE (s1 o : Nat) : Int := if o = 0 then 2 else if o = s1 then 0 else 9
theorem seed_want {s0 s1 o : Nat} (h0 : ¬ s0 = 0) (h1 : ¬ s1 = 0) (hne : ¬ s0 = s1) (b0 : s0 < 18446744073709551616) (b1 : s1 < 18446744073709551616) (bo : o < 18446744073709551616) : seedE (commN s0) (commN s1) s0 o = wantE s1 o := by
  have hc : ¬ commN s0 = commN s1 := fun h => hne (comm_inj b0 b1 h)
  unfold seedE wantE
  by_cases ho : o = 0
  · rw [if_pos (.inr (.inl ho)), if_pos ho]
  · rw [if_neg (by omega), if_neg ho]
    by_cases h : o = s1
    · subst h; simp
    · have : ¬ commN o = commN s1 := fun e => h (comm_inj bo b1 e)
      rw [if_neg h, if_pos (.inr this)]

set_option maxHeartbeats 8000000 in
set_option maxRecDepth 100000 in
theorem mixseed_two (s0 s1 o : Nat) (h0 : ¬ s0 = 0) (h1 : ¬ s1 = 0) (hne : ¬ s0 = s1) (b0 : s0 < 18446744073709551616) (b1 : s1 < 18446744073709551616) (bo : o < 18446744073709551616) (w : World) :
    Calls Try.prog 7 #[two s0 s1, .int .u64 (o : Int)] w fun e w' => e = .returned (.bool true) ∧ Below w.heap.size w w' := by
  have BX := Lib.hid (BoxS.new w s0 s1)
  have H0 := Lib.hid (fun w => commit_ok h0 w)
  have H1 := Lib.hid (fun w => commit_ok h1 w)
  have hc : ¬ commN s0 = commN s1 := fun h => hne (comm_inj b0 b1 h)
  have hm : ¬ mixN s0 = mixN s1 := fun h => hne (mix_inj _ _ b0 b1 h)
  have HSA := Lib.hid (fun w => seed_any (commN s0) (commN s1) s0 s1 w)
  rw [seed_ok (by omega) (by simp)] at HSA
  have HSB := Lib.hid (fun w => seed_any (commN s1) (commN s0) s1 s0 w)
  rw [seed_ok (by omega) (by simp)] at HSB
  have HSC := Lib.hid (fun w => seed_tells (commN s0) (commN s1) s0 o w)
  rw [seed_want h0 h1 hne b0 b1 bo] at HSC
  have q0 := nat_eq_zero_no h0
  have q0' := nat_eq_zero_no h1
  have q1 := nat_eq_no hne
  have q2 := nat_eq_no hc
  have q3 := nat_eq_no hm
  generalize mixN (mixN s0 ^^^ mixN (mixN s1)) = x at *
  generalize mixN (mixN s1 ^^^ mixN (mixN s0)) = y at *
  generalize commN s0 = a at *
  generalize commN s1 = b at *
  have q4 : ((x : Int) == (x : Int)) = true := by simp
  have HO := Lib.hid (show (o = 0 ∧ wantE s1 o = 2) ∨ (o ≠ 0 ∧ o = s1 ∧ wantE s1 o = 0) ∨ (o ≠ 0 ∧ o ≠ s1 ∧ wantE s1 o = 9) from by
    unfold wantE
    by_cases h : o = 0
    · exact .inl ⟨h, if_pos h⟩
    · by_cases h' : o = s1
      · exact .inr (.inl ⟨h, h', by rw [if_neg h, if_pos h']⟩)
      · exact .inr (.inr ⟨h, h', by rw [if_neg h, if_neg h']⟩))
  generalize wantE s1 o = E at *
  have q5 : (E == E) = true := by simp
  clear h0 h1 hne b0 b1 bo hc hm
  go_enter Try.func7, Try.ntmps7
  go_wp2_with (first | (go_at_call 9; with_reducible refine (H0.out _).mono ?_; rintro e w' ⟨rfl, rfl⟩) | (go_at_call 9; with_reducible refine (H1.out _).mono ?_; rintro e w' ⟨rfl, rfl⟩))
  with_reducible refine (HSA.out _).mono ?_
  rintro e w1 ⟨rfl, hb⟩
  have BX1 := Lib.hid (BX.out.go hb)
  have z0 := BX1.out.z0
  have z1 := BX1.out.z1
  clear hb BX
  go_wp2_with fail
  go_quiet (first | (go_at_call 13; exact (mix_any _ _).mono (fun _ _ h => ⟨h.1, _, h.2⟩)))
  have BX2 := Lib.hid (BX1.out.go (below_dr (Below.refl _ w1) nq))
  clear z0 z1 BX1
  have z0 := BX2.out.z0
  have z1 := BX2.out.z1
  go_wp2_with fail
  with_reducible refine (HSB.out _).mono ?_
  rintro e w3 ⟨rfl, hb⟩
  have BX3 := Lib.hid (BX2.out.go hb)
  clear z0 z1 hb BX2
  have z0 := BX3.out.z0
  have z1 := BX3.out.z1
  go_wp2_with fail
  with_reducible refine (HSA.out _).mono ?_
  rintro e w4 ⟨rfl, hb⟩
  have BX4 := Lib.hid (BX3.out.go hb)
  clear z0 z1 hb BX3
  have z0 := BX4.out.z0
  have z1 := BX4.out.z1
  go_wp2_with fail
  with_reducible refine (HSC.out _).mono ?_
  rintro e w5 ⟨xx, rfl, hb⟩
  have BX5 := Lib.hid (BX4.out.go hb)
  clear z0 z1 hb BX4
  have z0 := BX5.out.z0
  have z1 := BX5.out.z1
  rcases HO.out with ⟨ho, hE⟩ | ⟨ho, hs, hE⟩ | ⟨ho, hs, hE⟩
  · have p0 := nat_eq_zero_yes ho
    subst hE
    clear ho HO
    go_wp2_with (go_at_call 8; refine (lives_any _).mono ?_; rintro e w6 ⟨rfl, hb⟩; have HB := Lib.hid hb; clear hb)
    go_ret
    exact ⟨rfl, BX5.out.bel.trans (HB.out.mono BX5.out.bel.size)⟩
  · have p0 := nat_eq_zero_no ho
    have p1 : ((o : Int) == (s1 : Int)) = true := by rw [hs]; simp
    subst hE
    clear ho hs HO
    go_wp2_with (go_at_call 8; refine (lives_any _).mono ?_; rintro e w6 ⟨rfl, hb⟩; have HB := Lib.hid hb; clear hb)
    go_ret
    exact ⟨rfl, BX5.out.bel.trans (HB.out.mono BX5.out.bel.size)⟩
  · have p0 := nat_eq_zero_no ho
    have p1 := nat_eq_no hs
    subst hE
    clear ho hs HO
    go_wp2_with (go_at_call 8; refine (lives_any _).mono ?_; rintro e w6 ⟨rfl, hb⟩; have HB := Lib.hid hb; clear hb)
    go_ret
    exact ⟨rfl, BX5.out.bel.trans (HB.out.mono BX5.out.bel.size)⟩
theorem mixseed_any (s0 s1 o : Nat) (b0 : s0 < 18446744073709551616) (b1 : s1 < 18446744073709551616) (bo : o < 18446744073709551616) (w : World) :
    Calls Try.prog 7 #[two s0 s1, .int .u64 (o : Int)] w fun e w' => e = .returned (.bool true) ∧ Below w.heap.size w w' := by
  by_cases h : s0 = 0 ∨ s1 = 0
  · exact mixseed_zero s0 s1 o h w
  · by_cases he : s0 = s1
    · subst he; exact mixseed_same s0 o (by omega) w
    · exact mixseed_two s0 s1 o (by omega) (by omega) he b0 b1 bo w
end Go.Proofs.Ytdhefefhipdlcaa
