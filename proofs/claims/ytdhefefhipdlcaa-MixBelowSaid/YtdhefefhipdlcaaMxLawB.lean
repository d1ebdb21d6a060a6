/- joustlaw27.MixBelow: the whole law, walked. -/
import Derived.Test.YtdhefefhipdlcaaMxLives
namespace Go.Proofs.Ytdhefefhipdlcaa
open Go.RowKit Go.Lib

theorem later_same {seed at_ n k : Nat} (hn : 0 < n) (hM : n < 18446744073709551616) (hk : kN seed at_ n = k + 1) :
    belowN seed ((at_ + 1) % 18446744073709551616) n = belowN seed at_ n ∧ nextN seed ((at_ + 1) % 18446744073709551616) n = nextN seed at_ n := by
  have h := (k_first seed at_ n hn hM).2
  rw [hk] at h
  have e := first_one (k_first seed ((at_ + 1) % 18446744073709551616) n hn hM).2 (first_later h)
  unfold belowN nextN
  rw [e, hk]
  rw [show ((at_ + 1) % 18446744073709551616 + k) % 18446744073709551616 = (at_ + (k + 1)) % 18446744073709551616 by omega, show ((at_ + 1) % 18446744073709551616 + k + 1) % 18446744073709551616 = (at_ + (k + 1) + 1) % 18446744073709551616 by omega]
  exact ⟨rfl, rfl⟩

set_option maxHeartbeats 4000000 in
set_option maxRecDepth 100000 in
theorem mixbelow_any (seed at_ n : Nat) (hat : at_ < 18446744073709551616) (hM : n < 18446744073709551616) (w : World) :
    Calls Try.prog 6 #[.int .u64 (seed : Int), .int .u64 (at_ : Int), .int .u64 (n : Int)] w fun e w' => e = .returned (.bool true) ∧ Below w.heap.size w w' := by
  by_cases h0 : n = 0
  · subst h0
    go_enter Try.func6, Try.ntmps6
    go_wp2_with (first | (go_at_call 15; refine (Below_zero _ _ _).mono ?_; rintro e w' ⟨rfl, rfl⟩) | (go_at_call 8; refine (lives_any _).mono ?_; rintro e w' ⟨rfl, hb⟩; have HB := Lib.hid hb; clear hb))
    go_ret
    exact ⟨rfl, HB.out⟩
  · have hn : 0 < n := by omega
    have HB := Lib.hid (fun w => Below_any seed at_ n hn hat hM w)
    have hv := belowN_lt seed at_ n hn
    have hx := nextN_lt seed at_ n
    obtain ⟨hk, -⟩ := k_first seed at_ n hn hM
    have hnx : nextN seed at_ n = (at_ + kN seed at_ n + 1) % 18446744073709551616 := rfl
    have q0 := nat_eq_zero_no h0
    cases hkk : kN seed at_ n with
    | zero =>
      rw [hkk] at hnx
      generalize belowN seed at_ n = v at *
      generalize nextN seed at_ n = x at *
      have e1 : IntKind.u64.wrap ((x : Int) - (at_ : Int)) = 1 := by rw [IntKind.wrap_u64]; omega
      have d1 : ¬ (n : Int) ≤ (v : Int) := by omega
      have q1 : ((x : Int) == (at_ : Int)) = false := nat_eq_no (by omega)
      clear hnx hkk hk hn h0
      go_enter Try.func6, Try.ntmps6
      go_wp2_with (first | (go_at_call 15; with_reducible refine (HB.out _).mono ?_; rintro e w1 ⟨rfl, hb1⟩; have HB1 := Lib.hid hb1; clear hb1) | (go_at_call 8; refine (lives_any _).mono ?_; rintro e w2 ⟨rfl, hb⟩; have HB2 := Lib.hid hb; clear hb))
      go_ret
      exact ⟨rfl, HB1.out.trans (HB2.out.mono HB1.out.size)⟩
    | succ k =>
      have hls := later_same hn hM hkk
      have HL := Lib.hid (fun w => Below_any seed ((at_ + 1) % 18446744073709551616) n hn (Nat.mod_lt _ (by decide)) hM w)
      rw [hls.1, hls.2] at HL
      rw [hkk] at hnx hk
      generalize belowN seed at_ n = v at *
      generalize nextN seed at_ n = x at *
      obtain ⟨a2, ha2⟩ : ∃ a2, a2 = (at_ + 1) % 18446744073709551616 := ⟨_, rfl⟩
      rw [← ha2] at HL
      have e0 : IntKind.u64.wrap ((at_ : Int) + 1) = (a2 : Int) := by rw [IntKind.wrap_u64]; omega
      obtain ⟨y, hy⟩ : ∃ y, y = k + 2 := ⟨_, rfl⟩
      have e1 : IntKind.u64.wrap ((x : Int) - (at_ : Int)) = (y : Int) := by rw [IntKind.wrap_u64]; omega
      have q2 : ((y : Int) == 1) = false := by simp; omega
      have d1 : ¬ (n : Int) ≤ (v : Int) := by omega
      have q1 : ((x : Int) == (at_ : Int)) = false := nat_eq_no (by omega)
      have q3 : ((v : Int) == (v : Int)) = true := by simp
      have q4 : ((x : Int) == (x : Int)) = true := by simp
      clear hnx hkk hk hn h0 hls ha2 hy
      go_enter Try.func6, Try.ntmps6
      go_wp2_with fail
      with_reducible refine (HB.out _).mono ?_
      rintro e w1 ⟨rfl, hb1⟩
      have HB1 := Lib.hid hb1
      clear hb1
      go_wp2_with fail
      with_reducible refine (HL.out _).mono ?_
      rintro e w2 ⟨rfl, hb2⟩
      have HB2 := Lib.hid (HB1.out.trans (hb2.mono HB1.out.size))
      clear hb2
      go_wp2_with fail
      refine (lives_any _).mono ?_
      rintro e w3 ⟨rfl, hb3⟩
      have HB3 := Lib.hid (HB2.out.trans (hb3.mono HB2.out.size))
      clear hb3
      go_wp2_with fail
      go_ret
      exact ⟨rfl, HB3.out⟩
end Go.Proofs.Ytdhefefhipdlcaa
