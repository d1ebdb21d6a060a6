import Derived.Test.YtbkjminjkjnkpaaGreatDoorQDkInts
/- Layer 5 (decks): decks.alike, slices.Equal at numbers. -/
namespace Go.Proofs.YtbkjminjkjnkpaaGreatDoor
open Go.RowKit Go.Lib

/-- How many from the first one on are the same. -/
def alikeN : List Int → Nat
  | [] => 0
  | x :: l => (l.takeWhile (fun y => y == x)).length + 1
theorem take_while {x : Int} : ∀ (l : List Int) (k : Nat), k ≤ l.length → (∀ j, j < k → l[j]? = some x) → (∀ y, l[k]? = some y → y ≠ x) → (l.takeWhile (fun y => y == x)).length = k
  | [], k, hk, _, _ => by simp at hk; simp [hk]
  | y :: l, 0, _, _, h => by
    have := h y (by simp)
    simp [List.takeWhile_cons, this]
  | y :: l, k + 1, hk, h1, h2 => by
    have h0 : y = x := by have := h1 0 (by omega); simpa using this
    subst h0
    rw [List.takeWhile_cons]
    simp only [beq_self_eq_true, if_true, List.length_cons]
    rw [take_while l k (by simpa using hk) (fun j hj => by simpa using h1 (j + 1) (by omega)) (fun z hz => h2 z (by simpa using hz))]
theorem alike_is {xs : List Int} {k : Nat} (hk : k ≤ xs.length) (h1 : ∀ j, j < k → xs[j]? = xs[0]?) (h2 : ∀ y, xs[k]? = some y → xs[0]? ≠ some y) : alikeN xs = k := by
  cases xs with
  | nil => simp at hk; simp [alikeN, hk]
  | cons x l =>
    cases k with
    | zero => exact absurd rfl (h2 x rfl)
    | succ k =>
      show (l.takeWhile (fun y => y == x)).length + 1 = k + 1
      rw [take_while l k (by simpa using hk) (fun j hj => by simpa using h1 (j + 1) (by omega)) (fun y hy e => h2 y (by simpa using hy) (by simp [e]))]
theorem alike_pos {xs : List Int} (h : xs ≠ []) : 1 ≤ alikeN xs := by
  cases xs with
  | nil => exact absurd rfl h
  | cons x l => simp [alikeN]
theorem alike_le (xs : List Int) : alikeN xs ≤ xs.length := by
  cases xs with
  | nil => simp [alikeN]
  | cons x l => simp only [alikeN, List.length_cons]; have := (List.takeWhile_sublist (l := l) (fun y => y == x)).length_le; omega
theorem ret_i {a b : Int} (h : a = b) : Ending.returned (.int .i64 a) = .returned (.int .i64 b) := by rw [h]

set_option maxHeartbeats 2000000 in
set_option maxRecDepth 100000 in
theorem alike_any (w : World) (p : Option Addr) (c : Nat) (xs : List Int) (hx : IntsAt w p xs) (hm : xs.length ≤ maxLen) :
    Calls Tryz.prog 50 #[.slice p xs.length c] w fun e w' => e = .returned (.int .i64 (alikeN xs)) ∧ Below w.heap.size w w' := by
  unfold maxLen at hm
  have HX := Lib.hid hx
  have HA : Hid (∀ k, k ≤ xs.length → (∀ j, j < k → xs[j]? = xs[0]?) → (∀ y, xs[k]? = some y → xs[0]? ≠ some y) → alikeN xs = k) := fun k a b c => alike_is a b c
  clear hx
  generalize alikeN xs = B at *
  generalize hn : xs.length = n at *
  have HNn := Lib.hid hn
  clear hn
  go_enter Tryz.func50, Tryz.ntmps50
  go_wp2
  go_loopw [3] (fun vi wr => ∃ k : Nat, vi = .int .i64 k ∧ k ≤ n ∧ Below w.heap.size w wr ∧ (∀ j, j < k → xs[j]? = xs[0]?)) (fun vi _ => n - (RowKit.intOf vi).toNat)
  case atStart => exact ⟨0, by rfl, by omega, Below.refl _ _, by simp⟩
  case round =>
    obtain ⟨k, rfl, hk, hbw, h1⟩ := hrel
    have H1 := Lib.hid h1
    clear h1
    by_cases hlt : k < n
    · obtain ⟨x, hxk⟩ : ∃ x, xs[k]? = some x := ⟨xs[k]'(by have := HNn.out; omega), List.getElem?_eq_getElem _⟩
      obtain ⟨y, hyk⟩ : ∃ y, xs[0]? = some y := ⟨xs[0]'(by have := HNn.out; omega), List.getElem?_eq_getElem _⟩
      obtain ⟨a, rfl, ha⟩ := (HX.out.below hbw) k x hxk
      obtain ⟨a', he', ha'⟩ := (HX.out.below hbw) 0 y hyk
      cases he'
      have e0 : a.add 0 = a := by simp [Addr.add]
      rw [e0] at ha'
      have hlt0 : 0 < n := by omega
      have i1 : (k : Int) < (n : Int) := by omega
      have i0 : (0 : Int) ≤ (k : Int) := by omega
      have i2 : decide (k < n) = true := by simpa using hlt
      have KX := Lib.hid hxk
      have KY := Lib.hid hyk
      clear hxk hyk e0
      by_cases he : x = y
      · subst he
        have q1 : (x == x) = true := by simp
        go_wp2_with fail
        go_quiet (fail)
        go_wp2
        go_roundw
        case rel => exact ⟨k + 1, by go_num, by omega, below_dr hbw _, fun j hj => by
          by_cases hj' : j < k
          · exact H1.out j hj'
          · obtain rfl : j = k := by omega
            rw [KX.out, KY.out]⟩
        case measure => simp [RowKit.intOf]; omega
      · have q1 : (x == y) = false := by simpa using he
        have HE := Lib.hid (HA.out k (by omega) H1.out (fun z hz => by rw [KX.out] at hz; cases hz; rw [KY.out]; intro e; cases e; exact he rfl))
        clear he
        go_wp2_with fail
        go_quiet (fail)
        go_wp2
        go_ret
        exact ⟨ret_i (by rw [HE.out]), below_dr hbw _⟩
    · have hkn : k = n := by omega
      subst hkn
      have HE := Lib.hid (HA.out k (by omega) H1.out (fun z hz => by have := (List.getElem?_eq_some_iff.1 hz).1; have := HNn.out; omega))
      have i2 : decide ((k : Int) < (k : Int)) = false := by simp
      go_wp2_with fail
      go_quiet (fail)
      go_wp2
      go_ret
      exact ⟨ret_i (by rw [HE.out]), below_dr hbw _⟩

set_option maxHeartbeats 2000000 in
set_option maxRecDepth 100000 in
theorem equal_any (w : World) (p q : Option Addr) (c d : Nat) (xs ys : List Int) (hx : IntsAt w p xs) (hy : IntsAt w q ys) (hm : xs.length ≤ maxLen) (hm' : ys.length ≤ maxLen) :
    Calls Tryz.prog 25 #[.slice p xs.length c, .slice q ys.length d] w fun e w' => e = .returned (.bool (sameB xs ys)) ∧ Below w.heap.size w w' := by
  unfold maxLen at hm hm'
  have HX := Lib.hid hx
  have HY := Lib.hid hy
  clear hx hy
  by_cases hl : xs.length = ys.length
  · have HL := Lib.hid hl
    have HN : Hid (∀ j x y, xs[j]? = some x → ys[j]? = some y → x ≠ y → sameB xs ys = false) := fun j x y a b h => same_not a b h
    have HS : Hid ((∀ j, j < xs.length → xs[j]? = ys[j]?) → sameB xs ys = true) := fun h => same_all HL.out h
    rw [← hl] at hm' ⊢
    clear hl
    generalize hn : xs.length = n at *
    have HNn := Lib.hid hn
    clear hn
    generalize sameB xs ys = B at *
    have q0 : ((n : Int) != (n : Int)) = false := by simp
    go_enter Tryz.func25, Tryz.ntmps25
    go_wp2
    go_loopw [13] (fun vi wr => ∃ (k : Nat), vi = .int .i64 k ∧ k ≤ n ∧ Below w.heap.size w wr ∧ (∀ j, j < k → xs[j]? = ys[j]?)) (fun vi _ => n - (RowKit.intOf vi).toNat)
    case atStart => exact ⟨0, by rfl, by omega, Below.refl _ _, by simp⟩
    case round =>
      obtain ⟨k, rfl, hk, hbw, h2⟩ := hrel
      have H2 := Lib.hid h2
      clear h2
      by_cases hlt : k < n
      · obtain ⟨x, hxk⟩ : ∃ x, xs[k]? = some x := ⟨xs[k]'(by have := HNn.out; omega), List.getElem?_eq_getElem _⟩
        obtain ⟨y, hyk⟩ : ∃ y, ys[k]? = some y := ⟨ys[k]'(by have := HNn.out; have := HL.out; omega), List.getElem?_eq_getElem _⟩
        obtain ⟨a, rfl, ha⟩ := (HX.out.below hbw) k x hxk
        obtain ⟨a', rfl, ha'⟩ := (HY.out.below hbw) k y hyk
        have i1 : (k : Int) < (n : Int) := by omega
        have i0 : (0 : Int) ≤ (k : Int) := by omega
        have KX := Lib.hid hxk
        have KY := Lib.hid hyk
        clear hxk hyk
        by_cases he : x = y
        · subst he
          have q1 : (x != x) = false := by simp
          go_wp2_with fail
          go_quiet (fail)
          go_wp2
          go_roundw
          case rel => exact ⟨k + 1, by go_num, by omega, below_dr hbw _, fun j hj => by
            by_cases hj' : j < k
            · exact H2.out j hj'
            · obtain rfl : j = k := by omega
              rw [KX.out, KY.out]⟩
          case measure => simp [RowKit.intOf]; omega
        · have q1 : (x != y) = true := by simpa using he
          have HE := Lib.hid (HN.out k x y KX.out KY.out he)
          clear he
          go_wp2_with fail
          go_quiet (fail)
          go_wp2
          go_ret
          exact ⟨ret_b HE.out.symm, below_dr hbw _⟩
      · have hkn : k = n := by omega
        subst hkn
        go_wp2
        go_ret
        exact ⟨ret_b (HS.out H2.out).symm, hbw⟩
  · have q0 : ((xs.length : Int) != (ys.length : Int)) = true := by simpa using (by omega : ¬ (xs.length : Int) = ys.length)
    have HF := Lib.hid (same_len hl)
    clear hl
    generalize xs.length = n at *
    generalize ys.length = m at *
    go_enter Tryz.func25, Tryz.ntmps25
    go_wp2
    go_ret
    exact ⟨ret_b HF.out.symm, Below.refl _ _⟩
end Go.Proofs.YtbkjminjkjnkpaaGreatDoor
