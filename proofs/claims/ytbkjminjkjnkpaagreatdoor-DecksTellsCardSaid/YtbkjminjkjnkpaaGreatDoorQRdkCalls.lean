import Derived.Test.YtbkjminjkjnkpaaGreatDoorQDkInts
import Derived.Test.YtbkjminjkjnkpaaGreatDoorQDkMath
import Derived.Test.YtbkjminjkjnkpaaGreatDoorQDkTell
/- The reference of layer 5 (joustref05): kind, has, number. -/
namespace Go.Proofs.YtbkjminjkjnkpaaGreatDoor
open Go.RowKit Go.Lib

/-- The place of the first kind of a name; below 0. -/
def kindI (ns : List ByteArray) (x : ByteArray) : Int := match findW ns x 0 with
  | some k => k
  | none => -1
theorem findW_first : ∀ (ns : List ByteArray) (x : ByteArray) (i j : Nat), (∀ k, k < j → ∀ y, ns[k]? = some y → y ≠ x) → ns[j]? = some x → findW ns x i = some (i + j)
  | [], _, _, _, _, h => by simp at h
  | w :: l, x, i, 0, _, h => by
    have : w = x := by simpa using h
    unfold findW
    rw [if_pos this]; rfl
  | w :: l, x, i, j + 1, hn, h => by
    unfold findW
    rw [if_neg (hn 0 (by omega) w rfl), findW_first l x (i + 1) j (fun k hk y hy => hn (k + 1) (by omega) y (by simpa using hy)) (by simpa using h), Nat.add_right_comm, Nat.add_assoc]
theorem findW_out : ∀ (ns : List ByteArray) (x : ByteArray) (i : Nat), (∀ y ∈ ns, y ≠ x) → findW ns x i = none
  | [], _, _, _ => rfl
  | w :: l, x, i, h => by
    unfold findW
    rw [if_neg (h w List.mem_cons_self)]
    exact findW_out l x (i + 1) fun y hy => h y (List.mem_cons_of_mem _ hy)

set_option maxHeartbeats 2000000 in
set_option maxRecDepth 100000 in
theorem rkind_any (p : Option Addr) (c : Nat) (ks : List KC) (x : ByteArray) (w : World) (hK : KindsAt w p ks) (hm : ks.length ≤ 4611686018427387904) :
    Calls Tryz.prog 46 #[.slice p ks.length c, .string x] w fun e w' => e = .returned (.int .i64 (kindI (ks.map (·.name)) x)) ∧ Below w.heap.size w w' := by
  have HK := Lib.hid hK
  clear hK
  obtain ⟨N, hN⟩ : ∃ N, ks.length = N := ⟨_, rfl⟩
  rw [hN] at hm ⊢
  have HN := Lib.hid hN
  clear hN
  obtain ⟨KI, hKI⟩ : ∃ KI, kindI (ks.map (·.name)) x = KI := ⟨_, rfl⟩
  rw [hKI]
  have HKI := Lib.hid hKI
  clear hKI
  go_enter Tryz.func46, Tryz.ntmps46
  go_wp2
  go_loopw [5] (fun vi wr => ∃ k : Nat, vi = .int .i64 k ∧ k ≤ N ∧ Below w.heap.size w wr ∧ (∀ j, j < k → ∀ y, (ks.map (·.name))[j]? = some y → y ≠ x)) (fun vi _ => N - (RowKit.intOf vi).toNat)
  case atStart => exact ⟨0, by rfl, by omega, Below.refl _ _, by simp⟩
  case round =>
    obtain ⟨i, rfl, hi, hbw, hall⟩ := hrel
    have HA := Lib.hid hall
    have HB := Lib.hid hbw
    clear hall
    by_cases hlt : i < N
    · obtain ⟨b, o, rfl, hc, hbl⟩ := kind_name (HK.out.below hbw) i (by have := HN.out; omega)
      have hnx : (ks.map (·.name))[i]? = some (nameI (ks.map (·.name)) (i : Int)) := by
        have hl : i < (ks.map (·.name)).length := by rw [List.length_map]; have := HN.out; omega
        unfold nameI
        rw [List.getD_eq_getElem?_getD, Int.toNat_natCast, List.getElem?_eq_getElem hl]
        rfl
      obtain ⟨nm, hnm⟩ : ∃ nm, nameI (ks.map (·.name)) (i : Int) = nm := ⟨_, rfl⟩
      rw [hnm] at hc hnx
      have HNX := Lib.hid hnx
      have i1 : (i : Int) < (N : Int) := by omega
      have i0 : (0 : Int) ≤ (i : Int) := by omega
      clear hnx hnm hbw
      by_cases he : nm = x
      · have q := str_eq he
        have hf : KI = (i : Int) := by
          rw [← HKI.out]
          unfold kindI
          rw [findW_first _ _ 0 i HA.out (by rw [HNX.out, he]), Nat.zero_add]
        subst hf
        clear he
        go_wp2
        go_ret
        exact ⟨rfl, HB.out⟩
      · have q := str_ne he
        have HE := Lib.hid he
        clear he
        go_wp2
        go_roundw
        case rel => exact ⟨i + 1, by go_num, by omega, HB.out, fun j hj y hy => by
          by_cases hji : j < i
          · exact HA.out j hji y hy
          · obtain rfl : j = i := by omega
            rw [HNX.out] at hy
            cases hy
            exact HE.out⟩
        case measure => simp [RowKit.intOf]; omega
    · obtain rfl : i = N := by omega
      have hf : KI = -1 := by
        rw [← HKI.out]
        unfold kindI
        rw [findW_out _ _ 0 fun y hy => by
          obtain ⟨j, hj⟩ := List.getElem?_of_mem hy
          exact HA.out j (by have := (List.getElem?_eq_some_iff.1 hj).1; rw [List.length_map] at this; have := HN.out; omega) y hj]
      subst hf
      have i1 : ¬ ((i : Int) < (i : Int)) := by omega
      clear hbw
      go_wp2
      go_ret
      exact ⟨rfl, HB.out⟩

set_option maxHeartbeats 2000000 in
set_option maxRecDepth 100000 in
theorem rhas_any (w : World) (p : Option Addr) (c : Nat) (xs : List Int) (x : Int) (hx : IntsAt w p xs) (hm : xs.length ≤ maxLen) :
    Calls Tryz.prog 47 #[.slice p xs.length c, .int .i64 x] w fun e w' => e = .returned (.bool (decide (x ∈ xs))) ∧ Below w.heap.size w w' := by
  unfold maxLen at hm
  have HX := Lib.hid hx
  clear hx
  obtain ⟨N, hN⟩ : ∃ N, xs.length = N := ⟨_, rfl⟩
  rw [hN] at hm ⊢
  have HN := Lib.hid hN
  clear hN
  obtain ⟨B, hB⟩ : ∃ B, decide (x ∈ xs) = B := ⟨_, rfl⟩
  rw [hB]
  have HBB := Lib.hid hB
  clear hB
  go_enter Tryz.func47, Tryz.ntmps47
  go_wp2
  go_loopw [5] (fun vi wr => ∃ k : Nat, vi = .int .i64 k ∧ k ≤ N ∧ Below w.heap.size w wr ∧ (∀ j, j < k → xs[j]? ≠ some x)) (fun vi _ => N - (RowKit.intOf vi).toNat)
  case atStart => exact ⟨0, by rfl, by omega, Below.refl _ _, by simp⟩
  case round =>
    obtain ⟨i, rfl, hi, hbw, hall⟩ := hrel
    have HA := Lib.hid hall
    have HB := Lib.hid hbw
    clear hall
    by_cases hlt : i < N
    · obtain ⟨y, hy⟩ : ∃ y, xs[i]? = some y := ⟨xs[i]'(by have := HN.out; omega), List.getElem?_eq_getElem _⟩
      obtain ⟨a, rfl, ha⟩ := (HX.out.below hbw) i y hy
      have HY := Lib.hid hy
      have i1 : (i : Int) < (N : Int) := by omega
      have i0 : (0 : Int) ≤ (i : Int) := by omega
      clear hy hbw
      by_cases he : y = x
      · subst he
        have q : (y == y) = true := by simp
        have hf : B = true := by rw [← HBB.out]; simpa using List.mem_of_getElem? HY.out
        subst hf
        go_wp2
        go_ret
        exact ⟨rfl, HB.out⟩
      · have q : (y == x) = false := by simpa using he
        have HE := Lib.hid he
        clear he
        go_wp2
        go_roundw
        case rel => exact ⟨i + 1, by go_num, by omega, HB.out, fun j hj h => by
          by_cases hji : j < i
          · exact HA.out j hji h
          · obtain rfl : j = i := by omega
            rw [HY.out] at h
            cases h
            exact HE.out rfl⟩
        case measure => simp [RowKit.intOf]; omega
    · obtain rfl : i = N := by omega
      have hf : B = false := by
        rw [← HBB.out]
        simp only [decide_eq_false_iff_not]
        intro h
        obtain ⟨j, hj⟩ := List.getElem?_of_mem h
        exact HA.out j (by have := (List.getElem?_eq_some_iff.1 hj).1; have := HN.out; omega) hj
      subst hf
      have i1 : ¬ ((i : Int) < (i : Int)) := by omega
      clear hbw
      go_wp2
      go_ret
      exact ⟨rfl, HB.out⟩
end Go.Proofs.YtbkjminjkjnkpaaGreatDoor
