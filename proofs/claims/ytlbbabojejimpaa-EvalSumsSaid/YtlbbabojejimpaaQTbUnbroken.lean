import Derived.Test.YtlbbabojejimpaaQTbPlaces
/- board: unbroken: no pile of a table that may be leaves a place out. -/
namespace Go.Proofs.Ytlbbabojejimpaa
open Go.RowKit Go.Lib

set_option maxHeartbeats 1000000 in
theorem bindex_all (G B n cap : Nat) (w : World) (h : ∀ i, i < n → w.cell? ⟨G, B + i, none⟩ = some (.bool true)) (hn : n ≤ 1000) :
    Calls Try.prog 51 #[.slice (some ⟨G, B, none⟩) n cap, .bool false] w fun e w' => e = .returned (.int .i64 (-1)) ∧ w' = w := by
  have H := Lib.hid h
  clear h
  go_enter Try.func51, Try.ntmps51
  go_wp2
  go_loopw [8] (fun vi wr => ∃ k : Nat, vi = .int .i64 k ∧ k ≤ n ∧ wr = w) (fun vi _ => n - (RowKit.intOf vi).toNat)
  case atStart => exact ⟨0, by rfl, by omega, rfl⟩
  case round =>
    obtain ⟨k, rfl, hk, rfl⟩ := hrel
    by_cases hlt : k < n
    · have c0 := H.out k hlt
      have i0 : (0 : Int) ≤ (k : Int) := by omega
      have i1 : (k : Int) < (n : Int) := by omega
      go_wp2
      go_roundw
      case rel => exact ⟨k + 1, by go_num, by omega, by first | trivial | rfl⟩
      case measure => simp [RowKit.intOf]; omega
    · obtain rfl : k = n := by omega
      go_wp2
      go_ret
      exact ⟨rfl, rfl⟩
set_option maxHeartbeats 1000000 in
theorem bcontains_all (G B n cap : Nat) (w : World) (h : ∀ i, i < n → w.cell? ⟨G, B + i, none⟩ = some (.bool true)) (hn : n ≤ 1000) :
    Calls Try.prog 42 #[.slice (some ⟨G, B, none⟩) n cap, .bool false] w fun e w' => e = .returned (.bool false) ∧ w' = w := by
  have H := Lib.hid (bindex_all G B n cap w h hn)
  clear h
  go_enter Try.func42, Try.ntmps42
  go_wp2_with fail
  refine H.out.mono ?_
  rintro e w1 ⟨rfl, rfl⟩
  go_wp2_with fail
  go_ret
  exact ⟨rfl, rfl⟩

/-- What unbroken asks of a player's zones. -/
structure ZonesOk (w : World) (G B : Nat) (f : Nat → Nat) : Prop where
  few : ∀ z, z < 7 → f z ≤ 144
  count : ∀ z, z < 7 → w.cell? ⟨G, B + z * 145 + 144, none⟩ = some (.int .i64 (f z))
  full : ∀ z, z < 7 → pileB z = true → ∀ a, a < f z → w.cell? ⟨G, B + z * 145 + a, none⟩ = some (.bool true)
theorem ZonesOk.drewN {w : World} {G B : Nat} {f : Nat → Nat} (h : ZonesOk w G B f) (n : Nat) : ZonesOk (w.drewN n) G B f := ⟨h.few, fun z hz => h.count z hz, fun z hz hp a ha => h.full z hz hp a ha⟩

set_option maxHeartbeats 4000000 in
theorem bunbroken_yes (G B : Nat) (f : Nat → Nat) (w : World) (h : ZonesOk w G B f) :
    Calls Try.prog 34 #[.pointer (some ⟨G, B, none⟩)] w fun e w' => e = .returned (.bool true) ∧ ∃ m, w' = w.drewN m := by
  have H := Lib.hid h
  clear h
  go_enter Try.func34, Try.ntmps34
  go_wp2_with fail
  go_loopw [5] (fun vi wr => ∃ k m : Nat, vi = .int .i64 k ∧ k ≤ 7 ∧ wr = w.drewN m) (fun vi _ => 7 - (RowKit.intOf vi).toNat)
  case atStart => exact ⟨0, 0, by rfl, by omega, rfl⟩
  case round =>
    obtain ⟨k, m, rfl, hk, hwr⟩ := hrel
    have HW := Lib.hid hwr
    by_cases hlt : k < 7
    · have HH := H.out.drewN m
      rw [← hwr] at HH
      have hf := HH.few k hlt
      have hcount := HH.count k hlt
      have hall := HH.full k hlt
      obtain ⟨c, hc⟩ : ∃ c, f k = c := ⟨_, rfl⟩
      rw [hc] at hf hcount hall
      have HA := Lib.hid hall
      clear HH hall hc hwr
      have i0 : (0 : Int) ≤ (k : Int) := by omega
      have i1 : (k : Int) < 7 := by omega
      have j0 : (0 : Int) ≤ (c : Int) := by omega
      have j1 : (c : Int) ≤ 144 := by omega
      have hw : IntKind.u8.wrap (k : Int) = (k : Int) := IntWalk.u8_in _ (by omega)
      have hcp : Hid (∀ n, Calls Try.prog 31 #[.int .u8 k] (wr.drewN n) fun e w' => e = .returned (.bool (pileB k)) ∧ w' = wr.drewN n) := Lib.hid fun n => (bpile_any k (by omega) _).mono fun e w' ⟨he, hw⟩ => ⟨he, hw.symm⟩
      cases hp : pileB k with
      | false =>
        rw [hp] at hcp
        go_wp2_with fail
        go_quiet (refine Calls.quiet_of_same (hcp.out _))
        go_wp2_with fail
        go_roundw
        case rel => exact ⟨k + 1, m + nq, by go_num, by omega, by rw [HW.out, World.drewN_drewN]⟩
        case measure => simp [RowKit.intOf]; omega
      | true =>
        rw [hp] at hcp
        have hcc : Hid (∀ n, Calls Try.prog 42 #[.slice (some ⟨G, B + k * 145, none⟩) c 144, .bool false] (wr.drewN n) fun e w' => e = .returned (.bool false) ∧ w' = wr.drewN n) := Lib.hid fun n => bcontains_all G (B + k * 145) c 144 _ (fun i hi => HA.out hp i hi) (by omega)
        go_wp2_with fail
        go_quiet (first
          | (refine Calls.quiet_of_same (hcp.out _))
          | (refine Calls.quiet_of_same (hcc.out _)))
        go_wp2_with fail
        go_roundw
        case rel => exact ⟨k + 1, m + nq, by go_num, by omega, by rw [HW.out, World.drewN_drewN]⟩
        case measure => simp [RowKit.intOf]; omega
    · obtain rfl : k = 7 := by omega
      clear hwr
      go_wp2
      go_ret
      exact ⟨rfl, m, HW.out⟩
end Go.Proofs.Ytlbbabojejimpaa
