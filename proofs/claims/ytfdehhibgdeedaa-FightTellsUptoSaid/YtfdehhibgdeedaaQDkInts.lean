import Derived.Test.YtfdehhibgdeedaaRows
import Derived.WalkKit
import Derived.WalkSpells
import Derived.WalkLawsBesides
import Derived.Deep.QuietTactic
import Derived.BigQuiet
import Derived.Lib.Hide
import Derived.IntWalk
/- Layer 5 (decks): lists of numbers in memory; whether two are the same. -/
namespace Go.Proofs.Ytfdehhibgdeedaa
open Go.RowKit Go.Lib

/-- Numbers in memory, behind a slice's address. -/
def IntsAt (w : World) (p : Option Addr) (xs : List Int) : Prop := ∀ (i : Nat) (x : Int), xs[i]? = some x → ∃ a, p = some a ∧ w.cell? (a.add i) = some (.int .i64 x)
theorem IntsAt.nil (w : World) (p : Option Addr) : IntsAt w p [] := fun i x h => by simp at h
theorem IntsAt.below {w w' : World} {p : Option Addr} {xs : List Int} (h : IntsAt w p xs) (hb : Below w.heap.size w w') : IntsAt w' p xs := fun i x hx => by
  obtain ⟨a, hp, hc⟩ := h i x hx
  exact ⟨a, hp, by rw [World.cell?_of_block (w := w) (hb.block _ (World.block_lt_of_cell? _ _ hc))]; exact hc⟩
theorem IntsAt.drop {w : World} {a : Addr} {xs : List Int} (h : IntsAt w (some a) xs) (k : Nat) : IntsAt w (some (a.add k)) (xs.drop k) := fun i x hx => by
  rw [List.getElem?_drop] at hx
  obtain ⟨b, hp, hc⟩ := h _ x hx
  cases hp
  refine ⟨_, rfl, ?_⟩
  have e : (a.add k).add i = a.add (k + i) := by
    unfold Addr.add
    by_cases hi : k = 0 <;> by_cases hj : i = 0 <;> simp [hi, hj, Nat.add_assoc]
  rw [e]; exact hc

def sameB (xs ys : List Int) : Bool := decide (xs = ys)
theorem same_len {xs ys : List Int} (h : xs.length ≠ ys.length) : sameB xs ys = false := by
  unfold sameB; simp only [decide_eq_false_iff_not]; intro e; exact h (by rw [e])
theorem same_all {xs ys : List Int} (hl : xs.length = ys.length) (h : ∀ j, j < xs.length → xs[j]? = ys[j]?) : sameB xs ys = true := by
  unfold sameB
  simp only [decide_eq_true_eq]
  apply List.ext_getElem?
  intro i
  by_cases hi : i < xs.length
  · exact h i hi
  · rw [List.getElem?_eq_none (by omega), List.getElem?_eq_none (by omega)]
theorem same_not {xs ys : List Int} {j : Nat} {x y : Int} (hx : xs[j]? = some x) (hy : ys[j]? = some y) (h : x ≠ y) : sameB xs ys = false := by
  unfold sameB; simp only [decide_eq_false_iff_not]; intro e; rw [e, hy] at hx; exact h (by cases hx; rfl)
theorem ret_b {a b : Bool} (h : a = b) : Ending.returned (.bool a) = .returned (.bool b) := by rw [h]
theorem below_dr {b : Nat} {w w' : World} (h : Below b w w') (n : Nat) : Below b w (w'.drewN n) := by
  induction n with
  | zero => exact h
  | succ n ih => exact ih.drew

set_option maxHeartbeats 2000000 in
set_option maxRecDepth 100000 in
theorem ints_any (w : World) (p q : Option Addr) (c d : Nat) (xs ys : List Int) (hx : IntsAt w p xs) (hy : IntsAt w q ys) (hm : xs.length ≤ maxLen) (hm' : ys.length ≤ maxLen) :
    Calls Try.prog 12 #[.slice p xs.length c, .slice q ys.length d] w fun e w' => e = .returned (.bool (sameB xs ys)) ∧ Below w.heap.size w w' := by
  unfold maxLen at hm hm'
  have HX := Lib.hid hx
  have HY := Lib.hid hy
  clear hx hy
  by_cases hl : xs.length = ys.length
  · have HL := Lib.hid hl
    have HN : Hid (∀ j x y, xs[j]? = some x → ys[j]? = some y → x ≠ y → sameB xs ys = false) := fun j x y a b h => same_not a b h
    have HS : Hid ((∀ j, j < xs.length → xs[j]? = ys[j]?) → sameB xs ys = true) := fun h => same_all HL.out h
    rw [← hl] at hm' ⊢
    clear hl
    generalize hn : xs.length = n at *
    have HNn := Lib.hid hn
    clear hn
    generalize sameB xs ys = B at *
    have q0 : ((n : Int) == (n : Int)) = true := by simp
    go_enter Try.func12, Try.ntmps12
    go_wp2
    go_loopw [5, 6] (fun vs vi wr => ∃ (k : Nat) (b : Bool), vs = .bool b ∧ vi = .int .i64 k ∧ k ≤ n ∧ Below w.heap.size w wr ∧ (b = false → B = false) ∧ (b = true → ∀ j, j < k → xs[j]? = ys[j]?)) (fun _ vi _ => n - (RowKit.intOf vi).toNat)
    case atStart => exact ⟨0, true, by rfl, rfl, by omega, Below.refl _ _, by simp, by simp⟩
    case round =>
      obtain ⟨k, b, rfl, rfl, hk, hbw, h1, h2⟩ := hrel
      have H1 := Lib.hid h1
      have H2 := Lib.hid h2
      clear h1 h2
      cases b with
      | false =>
        go_wp2
        go_ret
        exact ⟨ret_b (H1.out (by trivial)).symm, hbw⟩
      | true =>
        by_cases hlt : k < n
        · obtain ⟨x, hxk⟩ : ∃ x, xs[k]? = some x := ⟨xs[k]'(by have := HNn.out; omega), List.getElem?_eq_getElem _⟩
          obtain ⟨y, hyk⟩ : ∃ y, ys[k]? = some y := ⟨ys[k]'(by have := HNn.out; have := HL.out; omega), List.getElem?_eq_getElem _⟩
          obtain ⟨a, rfl, ha⟩ := (HX.out.below hbw) k x hxk
          obtain ⟨a', rfl, ha'⟩ := (HY.out.below hbw) k y hyk
          have i1 : (k : Int) < (n : Int) := by omega
          have i0 : (0 : Int) ≤ (k : Int) := by omega
          have KX := Lib.hid hxk
          have KY := Lib.hid hyk
          clear hxk hyk
          by_cases he : x = y
          · subst he
            have q1 : (x == x) = true := by simp
            go_wp2_with fail
            go_quiet (fail)
            go_wp2
            go_roundw
            case rel => exact ⟨k + 1, true, by rfl, by go_num, by omega, below_dr hbw _, by simp, fun _ j hj => by
              by_cases hj' : j < k
              · exact H2.out (by trivial) j hj'
              · obtain rfl : j = k := by omega
                rw [KX.out, KY.out]⟩
            case measure => simp [RowKit.intOf]; omega
          · have q1 : (x == y) = false := by simpa using he
            have HE := Lib.hid (HN.out k x y KX.out KY.out he)
            clear he
            go_wp2_with fail
            go_quiet (fail)
            go_wp2
            go_roundw
            case rel => exact ⟨k + 1, false, by rfl, by go_num, by omega, below_dr hbw _, fun _ => HE.out, by simp⟩
            case measure => simp [RowKit.intOf]; omega
        · have hkn : k = n := by omega
          subst hkn
          go_wp2
          go_ret
          exact ⟨ret_b (HS.out (H2.out (by trivial))).symm, hbw⟩
  · have q0 : ((xs.length : Int) == (ys.length : Int)) = false := by simpa using (by omega : ¬ (xs.length : Int) = ys.length)
    have HF := Lib.hid (same_len hl)
    clear hl
    generalize xs.length = n at *
    generalize ys.length = m at *
    go_enter Try.func12, Try.ntmps12
    go_wp2
    refine wp_loop_rounds 1 ?_
    rw [rounds_succ]
    go_wp2
    go_ret
    exact ⟨ret_b HF.out.symm, Below.refl _ _⟩
end Go.Proofs.Ytfdehhibgdeedaa
