import Derived.Test.YtlbbabojejimpaaQTbPlaces
/- might: small functions: bounded, plus, onSide, seen, isGift, there; board.there, Kind. -/
namespace Go.Proofs.Ytlbbabojejimpaa
open Go.RowKit Go.Lib

def bd (n : Int) : Int := max (-99999) (min n 99999)
theorem bd_le (n : Int) : -99999 ≤ bd n ∧ bd n ≤ 99999 := by unfold bd; omega
def plusI (s n : Int) : Int := bd (s + bd n)

set_option maxHeartbeats 1000000 in
theorem bounded_any (n : Int) (w : World) : Calls Try.prog 45 #[.int .i64 n] w fun e w' => e = .returned (.int .i64 (bd n)) ∧ w = w' := by
  by_cases h1 : n ≤ 99999
  · by_cases h2 : n ≤ -99999
    · have hb : bd n = -99999 := by unfold bd; omega
      rw [hb]
      clear hb
      go_enter Try.func45, Try.ntmps45
      go_wp2_with fail
      go_ret
      refine ⟨ret_int ?_, rfl⟩
      omega
    · have hb : bd n = n := by unfold bd; omega
      rw [hb]
      clear hb
      go_enter Try.func45, Try.ntmps45
      go_wp2_with fail
      go_ret
      refine ⟨ret_int ?_, rfl⟩
      omega
  · have hb : bd n = 99999 := by unfold bd; omega
    rw [hb]
    clear hb
    go_enter Try.func45, Try.ntmps45
    go_wp2_with fail
    go_ret
    refine ⟨ret_int ?_, rfl⟩
    omega

set_option maxHeartbeats 1000000 in
theorem plus_any (s n : Int) (w : World) (hs : -99999 ≤ s ∧ s ≤ 99999) : Calls Try.prog 39 #[.int .i64 s, .int .i64 n] w fun e w' => e = .returned (.int .i64 (plusI s n)) ∧ w = w' := by
  have hb := bd_le n
  have B1 := Lib.hid fun W => bounded_any n W
  have B2 := Lib.hid fun W => bounded_any (s + bd n) W
  have hw : IntKind.i64.wrap (s + bd n) = s + bd n := IntWalk.i64_in _ (by omega)
  have hp : Hid (bd (s + bd n) = plusI s n) := Lib.hid rfl
  generalize bd n = m at *
  go_enter Try.func39, Try.ntmps39
  go_wp2_with fail
  refine (B1.out _).mono ?_
  rintro e w1 ⟨rfl, rfl⟩
  go_wp2_with fail
  refine (B2.out _).mono ?_
  rintro e w1 ⟨rfl, rfl⟩
  rw [hp.out]
  go_wp2_with fail
  go_ret
  exact ⟨rfl, rfl⟩

def sideB (s who : Nat) (fr : Int) (has : Nat) (id : Int) : Bool := if s = 3 then id == fr else if s = 0 then has == who else if s = 1 then has != who else s == 2
set_option maxHeartbeats 2000000 in
theorem side_any (s who : Nat) (fr : Int) (has : Nat) (id : Int) (w : World) : Calls Try.prog 48 #[.int .u8 s, .int .u8 who, .int .i64 fr, .int .u8 has, .int .i64 id] w fun e w' => e = .returned (.bool (sideB s who fr has id)) ∧ w = w' := by
  have hcast : ((has : Int) == (who : Int)) = (has == who) := by
    by_cases h : has = who
    · simp [h]
    · have h1 : (has == who) = false := by simpa using h
      rw [h1]; simp; omega
  by_cases h3 : s = 3
  · have hr : sideB s who fr has id = (id == fr) := if_pos h3
    rw [hr]
    subst h3
    clear hr hcast
    go_enter Try.func48, Try.ntmps48
    go_wp2_with fail
    go_ret
    exact ⟨rfl, rfl⟩
  by_cases h0 : s = 0
  · have hr : sideB s who fr has id = (has == who) := by unfold sideB; rw [if_neg h3, if_pos h0]
    rw [hr, ← hcast]
    subst h0
    clear hr hcast h3
    go_enter Try.func48, Try.ntmps48
    go_wp2_with fail
    go_ret
    exact ⟨rfl, rfl⟩
  by_cases h1 : s = 1
  · have hr : sideB s who fr has id = (has != who) := by unfold sideB; rw [if_neg h3, if_neg h0, if_pos h1]
    rw [hr]
    subst h1
    unfold bne
    rw [← hcast]
    clear hr hcast h3 h0
    go_enter Try.func48, Try.ntmps48
    go_wp2_with fail
    go_ret
    exact ⟨rfl, rfl⟩
  · have e3 : ((s : Int) == 3) = false := by simp; omega
    have e0 : ((s : Int) == 0) = false := by simp; omega
    have e1 : ((s : Int) == 1) = false := by simp; omega
    have hr : sideB s who fr has id = (s == 2) := by unfold sideB; rw [if_neg h3, if_neg h0, if_neg h1]
    have hc2 : ((s : Int) == 2) = (s == 2) := by
      by_cases h : s = 2
      · simp [h]
      · have h1 : (s == 2) = false := by simpa using h
        rw [h1]; simp; omega
    rw [hr, ← hc2]
    clear hr hcast h3 h0 h1 hc2
    go_enter Try.func48, Try.ntmps48
    go_wp2_with fail
    go_ret
    exact ⟨rfl, rfl⟩
end Go.Proofs.Ytlbbabojejimpaa
