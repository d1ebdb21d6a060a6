import Derived.Test.YtlbbabojejimpaaQTbB
/- board: the places of a table's pieces (take, room, isPile, fits, kindOf). -/
namespace Go.Proofs.Ytlbbabojejimpaa
open Go.RowKit Go.Lib

set_option maxHeartbeats 1000000 in
theorem bkindOf_any (t : Tb) (xs : List Cd) (ps : List Pc) (d : Int) (w : World) (hT : TabIn w t xs ps) : Calls Try.prog 21 #[.slice t.qk t.nk t.ck, .int .i64 d] w fun e w' => e = .returned (.int .u8 (kindI xs d)) ∧ w = w' := by
  have hnk := hT.nk.1
  by_cases h1 : d < 0
  · rw [kindI_neg h1]
    clear hnk hT
    go_enter Try.func21, Try.ntmps21
    go_wp2
    go_ret
    exact ⟨rfl, rfl⟩
  by_cases h2 : d ≥ (t.nk : Int)
  · rw [kindI_out (by omega)]
    clear hnk hT
    go_enter Try.func21, Try.ntmps21
    go_wp2
    go_ret
    exact ⟨rfl, rfl⟩
  · obtain ⟨k, rfl⟩ : ∃ k : Nat, d = k := ⟨d.toNat, by omega⟩
    obtain ⟨x, hx⟩ : ∃ x, xs[k]? = some x := ⟨xs[k]'(by omega), List.getElem?_eq_getElem _⟩
    obtain ⟨g', o', hq', hg', hc'⟩ := hT.kind hx
    rw [kindI_in hx, hq']
    have k1 : (k : Int) < (t.nk : Int) := by omega
    have k0 : (0 : Int) ≤ (k : Int) := by omega
    clear hnk hx hT
    go_enter Try.func21, Try.ntmps21
    go_wp2
    go_ret
    exact ⟨rfl, rfl⟩

def pileB (z : Nat) : Bool := z == 0 || z == 1 || z == 4 || z == 5
def fitsB (k z : Nat) : Bool := if z = 2 ∨ z = 6 then k == 0 else if z = 3 then k != 0 else true
def roomN (z : Nat) : Nat := if z = 2 ∨ z = 3 then 5 else if z = 6 then 1 else 144
theorem eight {z : Nat} (h : z ≤ 7) : z = 0 ∨ z = 1 ∨ z = 2 ∨ z = 3 ∨ z = 4 ∨ z = 5 ∨ z = 6 ∨ z = 7 := by omega

set_option maxHeartbeats 1000000 in
theorem bpile_any (z : Nat) (h : z ≤ 7) (w : World) : Calls Try.prog 31 #[.int .u8 z] w fun e w' => e = .returned (.bool (pileB z)) ∧ w = w' := by
  rcases eight h with rfl | rfl | rfl | rfl | rfl | rfl | rfl | rfl
  all_goals
    go_enter Try.func31, Try.ntmps31
    go_wp2
    go_ret
    exact ⟨rfl, rfl⟩
set_option maxHeartbeats 1000000 in
theorem broom_any (z : Nat) (h : z ≤ 7) (w : World) : Calls Try.prog 33 #[.int .u8 z] w fun e w' => e = .returned (.int .i64 (roomN z)) ∧ w = w' := by
  rcases eight h with rfl | rfl | rfl | rfl | rfl | rfl | rfl | rfl
  all_goals
    go_enter Try.func33, Try.ntmps33
    go_wp2
    go_ret
    exact ⟨rfl, rfl⟩
set_option maxHeartbeats 2000000 in
theorem bfits_any (k z : Nat) (h : z ≤ 7) (w : World) : Calls Try.prog 30 #[.int .u8 k, .int .u8 z] w fun e w' => e = .returned (.bool (fitsB k z)) ∧ w = w' := by
  by_cases hk : k = 0
  · subst hk
    rcases eight h with rfl | rfl | rfl | rfl | rfl | rfl | rfl | rfl
    all_goals
      go_enter Try.func30, Try.ntmps30
      go_wp2
      go_ret
      exact ⟨rfl, rfl⟩
  · have e1 : ((k : Int) == 0) = false := by simp; omega
    have HK : Hid ((k == 0) = false) := Lib.hid (by simpa using hk)
    clear hk
    rcases eight h with rfl | rfl | rfl | rfl | rfl | rfl | rfl | rfl
    all_goals
      go_enter Try.func30, Try.ntmps30
      go_wp2
      go_ret
      exact ⟨ret_bool (by simp [fitsB, bne, e1, HK.out]), rfl⟩
set_option maxHeartbeats 1000000 in
theorem bnumber_yes (n : Int) (h : 0 ≤ n ∧ n ≤ 99999) (w : World) : Calls Try.prog 29 #[.int .i64 n] w fun e w' => e = .returned (.bool true) ∧ w = w' := by
  have h1 : n ≥ 0 := h.1
  have h2 : n ≤ 99999 := h.2
  clear h
  go_enter Try.func29, Try.ntmps29
  go_wp2
  go_ret
  exact ⟨rfl, rfl⟩

set_option maxHeartbeats 2000000 in
theorem btake_yes (G B a r c : Nat) (w : World) (ha : a < r) (hc0 : w.cell? ⟨G, B + a, none⟩ = some (.bool false)) (hc1 : w.cell? ⟨G, B + 144, none⟩ = some (.int .i64 c)) (hf0 : w.frozen? ⟨G, B + a, none⟩ = false) (hf1 : w.frozen? ⟨G, B + 144, none⟩ = false) (hr : r ≤ 144) (hcs : c ≤ 1000) :
    Calls Try.prog 32 #[.pointer (some ⟨G, B, none⟩), .int .i64 a, .int .i64 r] w fun e w' => e = .returned (.bool true) ∧ w' = (w.setCell ⟨G, B + a, none⟩ (.bool true)).setCell ⟨G, B + 144, none⟩ (.int .i64 (c + 1 : Nat)) := by
  have i0 : ¬ ((a : Int) < 0) := by omega
  have i1 : ¬ ((a : Int) ≥ (r : Int)) := by omega
  have i2 : (a : Int) < 144 := by omega
  have i3 : (0 : Int) ≤ (a : Int) := by omega
  have hne : B + a ≠ B + 144 := by omega
  have hne2 : B + 144 ≠ B + a := by omega
  go_enter Try.func32, Try.ntmps32
  go_wp2_with fail
  go_ret
  exact ⟨rfl, by simp⟩
end Go.Proofs.Ytlbbabojejimpaa
