/- joustlaw27.lives: the document's examples come out. -/
import Derived.Test.YtdhefefhipdlcaaMxLots
namespace Go.Proofs.Ytdhefefhipdlcaa
open Go.RowKit Go.Lib

theorem ints_new (w : World) (xs : List Int) (t : TypeId) : IntsAt (w.alloc (.cells (xs.map iv).toArray t)) (some ⟨w.heap.size, 0, none⟩) xs := fun i x hx => ⟨_, rfl, by
  rw [add_iv, cell_blk (heap_alloc_new w _)]
  simp [hx]⟩
theorem lots_fit (p : Option Addr) (n c : Nat) (xs r : List Int) (w : World) (hx : IntsAt w p xs) (hn : xs.length = n) (hl : xs.length ≤ 1000) (hr : lotsI (upI xs.length) xs = some r) :
    Calls Try.prog 20 #[.slice p n c] w fun e w' => ∃ q d, e = .returned (.tuple #[.slice q r.length d, .int .i64 0]) ∧ IntsAt w' q r ∧ Below w.heap.size w w' := by
  subst hn
  refine (lots_any p c xs w hx hl).mono fun e w' ⟨v, he, hi, hb⟩ => ?_
  rw [hr] at he hi
  obtain ⟨q, d, rfl, h⟩ := hi.ints
  exact ⟨q, d, he, h, hb⟩
theorem lots_miss (p : Option Addr) (n c : Nat) (xs : List Int) (w : World) (hx : IntsAt w p xs) (hn : xs.length = n) (hl : xs.length ≤ 1000) (hr : lotsI (upI xs.length) xs = none) :
    Calls Try.prog 20 #[.slice p n c] w fun e w' => ∃ q d, e = .returned (.tuple #[.slice q 0 d, .int .i64 2]) ∧ Below w.heap.size w w' := by
  subst hn
  refine (lots_any p c xs w hx hl).mono fun e w' ⟨v, he, hi, hb⟩ => ?_
  rw [hr] at he hi
  obtain ⟨q, d, rfl, h⟩ := hi.ints
  exact ⟨q, d, he, hb⟩
theorem of_fit (p : Option Addr) (n c : Nat) (xs r : List Int) (w : World) (hx : IntsAt w p xs) (hn : xs.length = n) (hl : xs.length ≤ 1000) (hr : ofI (upI xs.length) xs = some r) :
    Calls Try.prog 22 #[.slice p n c] w fun e w' => ∃ q d, e = .returned (.tuple #[.slice q r.length d, .int .i64 0]) ∧ IntsAt w' q r ∧ Below w.heap.size w w' := by
  subst hn
  refine (of_any p c xs w hx hl).mono fun e w' ⟨v, he, hi, hb⟩ => ?_
  rw [hr] at he hi
  obtain ⟨q, d, rfl, h⟩ := hi.ints
  exact ⟨q, d, he, h, hb⟩
theorem commit_nought (w : World) : Calls Try.prog 9 #[.int .u64 0] w fun e w' => e = .returned (.tuple #[.int .u64 0, .int .i64 2]) ∧ w' = w := commit_any 0 w
theorem order_one (w : World) : Calls Try.prog 17 #[.int .u64 7, .int .i64 1] w fun e w' => ∃ q d, e = .returned (.tuple #[.slice q 1 d, .int .i64 0]) ∧ IntsAt w' q [0] ∧ Below w.heap.size w w' :=
  (order_any 7 1 (by decide) w).mono fun _ _ ⟨he, hi, hb⟩ => ⟨_, _, he, hi.ints, hb⟩
theorem below_nine : belowN 9 0 1 = 0 ∧ nextN 9 0 1 = 1 := by
  have hk := (k_first 9 0 1 (by decide) (by decide)).2
  have h0 : First 9 0 1 0 := ⟨by decide +kernel, fun j hj => by omega⟩
  have e := first_one hk h0
  exact ⟨Nat.mod_one _, by unfold nextN; rw [e]⟩
theorem Below_nine (w : World) : Calls Try.prog 15 #[.int .u64 9, .int .u64 0, .int .u64 1] w fun e w' => e = .returned (.tuple #[.int .u64 0, .int .u64 1, .int .i64 0]) ∧ Below w.heap.size w w' := by
  have := Below_any 9 0 1 (by decide) (by decide) (by decide) w
  rw [below_nine.1, below_nine.2] at this
  exact this
theorem same_fit (w : World) (p q : Option Addr) (c d n m : Nat) (xs : List Int) (hx : IntsAt w p xs) (hy : IntsAt w q xs) (hn : xs.length = n) (hm : xs.length = m) (hs : xs.length ≤ 100000) :
    Calls Try.prog 19 #[.slice p n c, .slice q m d] w fun e w' => e = .returned (.bool true) ∧ Below w.heap.size w w' := by
  subst hn; subst hm
  have := ints_any w p q c d xs xs hx hy (by unfold maxLen; omega) (by unfold maxLen; omega)
  rwa [show sameB xs xs = true by simp [sameB]] at this

set_option maxHeartbeats 4000000 in
set_option maxRecDepth 100000 in
theorem lives_any (w : World) : Calls Try.prog 8 #[] w fun e w' => e = .returned (.bool true) ∧ Below w.heap.size w w' := by
  go_enter Try.func8, Try.ntmps8
  go_wp2_with fail
  have n1 := ints_new w [2, 0, 1] 3
  refine (lots_fit _ _ _ [2, 0, 1] [2, 0, 0] _ n1 rfl (by decide) (by decide)).mono ?_
  rintro e w1 ⟨p1, c1, rfl, i1, b1⟩
  have B1 : Below w.heap.size w w1 := ((Below.refl _ _).alloc (Nat.le_refl _) _).trans (b1.mono (by simp))
  have I1 := Lib.hid i1
  have B1 := Lib.hid B1
  clear n1 b1 i1
  simp only [List.length_cons, List.length_nil, Nat.reduceAdd]
  go_wp2_with fail
  have n2 := ints_new w1 [2, 0, 0] 3
  refine (of_fit _ _ _ [2, 0, 0] [2, 0, 1] _ n2 rfl (by decide) (by decide)).mono ?_
  rintro e w2 ⟨p2, c2, rfl, i2, b2⟩
  have I1 := Lib.hid ((I1.out.below ((Below.refl _ _).alloc (Nat.le_refl _) _)).below b2)
  have I2 := Lib.hid i2
  have B2 := Lib.hid ((B1.out.alloc B1.out.size _).trans (b2.mono (by have := B1.out.size; simp; omega)))
  clear n2 b2 i2 B1
  simp only [List.length_cons, List.length_nil, Nat.reduceAdd]
  go_wp2_with fail
  have n3 := ints_new w2 [0, 0] 3
  refine (lots_miss _ _ _ [0, 0] _ n3 rfl (by decide) (by decide)).mono ?_
  rintro e w3 ⟨p3, c3, rfl, b3⟩
  have I1 := Lib.hid ((I1.out.below ((Below.refl _ _).alloc (Nat.le_refl _) _)).below b3)
  have I2 := Lib.hid ((I2.out.below ((Below.refl _ _).alloc (Nat.le_refl _) _)).below b3)
  have B3 := Lib.hid ((B2.out.alloc B2.out.size _).trans (b3.mono (by have := B2.out.size; simp; omega)))
  clear n3 b3 B2
  go_wp2_with fail
  refine (commit_nought _).mono ?_
  rintro e w3' ⟨rfl, rfl⟩
  go_wp2_with fail
  refine (order_one _).mono ?_
  rintro e w5 ⟨p5, c5, rfl, i5, b5⟩
  have I1 := Lib.hid (I1.out.below b5)
  have I2 := Lib.hid (I2.out.below b5)
  have I5 := Lib.hid i5
  have B5 := Lib.hid (B3.out.trans (b5.mono B3.out.size))
  clear b5 i5 B3
  go_wp2_with fail
  refine (Below_nine _).mono ?_
  rintro e w6 ⟨rfl, b6⟩
  have I1 := Lib.hid (I1.out.below b6)
  have I2 := Lib.hid (I2.out.below b6)
  have I5 := Lib.hid (I5.out.below b6)
  have B6 := Lib.hid (B5.out.trans (b6.mono B5.out.size))
  clear b6 B5
  go_wp2_with fail
  have n7 := ints_new w6 [2, 0, 0] 3
  refine (same_fit _ _ _ _ _ _ _ [2, 0, 0] (I1.out.below ((Below.refl _ _).alloc (Nat.le_refl _) _)) n7 rfl rfl (by decide)).mono ?_
  rintro e w7 ⟨rfl, b7⟩
  have I2 := Lib.hid ((I2.out.below ((Below.refl _ _).alloc (Nat.le_refl _) _)).below b7)
  have I5 := Lib.hid ((I5.out.below ((Below.refl _ _).alloc (Nat.le_refl _) _)).below b7)
  have B7 := Lib.hid ((B6.out.alloc B6.out.size _).trans (b7.mono (by have := B6.out.size; simp; omega)))
  clear n7 b7 B6 I1
  go_wp2_with fail
  have n8 := ints_new w7 [2, 0, 1] 3
  refine (same_fit _ _ _ _ _ _ _ [2, 0, 1] (I2.out.below ((Below.refl _ _).alloc (Nat.le_refl _) _)) n8 rfl rfl (by decide)).mono ?_
  rintro e w8 ⟨rfl, b8⟩
  have I5 := Lib.hid ((I5.out.below ((Below.refl _ _).alloc (Nat.le_refl _) _)).below b8)
  have B8 := Lib.hid ((B7.out.alloc B7.out.size _).trans (b8.mono (by have := B7.out.size; simp; omega)))
  clear n8 b8 B7 I2
  go_wp2_with fail
  have n9 := ints_new w8 [0] 3
  refine (same_fit _ _ _ _ _ _ _ [0] (I5.out.below ((Below.refl _ _).alloc (Nat.le_refl _) _)) n9 rfl rfl (by decide)).mono ?_
  rintro e w9 ⟨rfl, b9⟩
  have B9 := Lib.hid ((B8.out.alloc B8.out.size _).trans (b9.mono (by have := B8.out.size; simp; omega)))
  clear n9 b9 B8 I5
  go_wp2
  go_ret
  exact ⟨rfl, B9.out⟩
end Go.Proofs.Ytdhefefhipdlcaa
