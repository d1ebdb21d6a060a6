/- joustlaw02.ParseLimits: it answers true, for every number of things. -/
import Derived.Test.YtaffgdgdojdoiaaGreatDoorParLimAll
import Derived.Test.YtaffgdgdojdoiaaGreatDoorParLiv
namespace Go.Proofs.YtaffgdgdojdoiaaGreatDoor
open Go.RowKit Go.Lib

theorem lim_most (k : Nat) (h : k < 6) : [Value.int .i64 64, Value.int .i64 4, Value.int .i64 6, Value.int .i64 6, Value.int .i64 5, Value.int .i64 6][k] = .int .i64 (mostI k : Int) := by
  match k, h with
  | 0, _ | 1, _ | 2, _ | 3, _ | 4, _ | 5, _ => rfl
  | k + 6, h => exact absurd h (by omega)
theorem lim_one (k : Nat) (h : k < 6) : [Value.string ⟨#[116, 114, 97, 112, 32, 116, 32, 123, 32, 125, 32]⟩, .string ⟨#[112, 108, 97, 121, 32, 58, 32]⟩, .string ⟨#[110, 101, 101, 100, 115, 32, 49, 32]⟩, .string ⟨#[110, 101, 103, 97, 116, 101, 32, 59, 32]⟩, .string ⟨#[40, 32, 110, 111, 116, 32]⟩, .string ⟨#[49, 32]⟩][k] = .string (textI (oneI k)) := by
  match k, h with
  | 0, _ => rw [show textI (oneI 0) = ⟨#[116, 114, 97, 112, 32, 116, 32, 123, 32, 125, 32]⟩ by kernel_rfl]; rfl
  | 1, _ => rw [show textI (oneI 1) = ⟨#[112, 108, 97, 121, 32, 58, 32]⟩ by kernel_rfl]; rfl
  | 2, _ => rw [show textI (oneI 2) = ⟨#[110, 101, 101, 100, 115, 32, 49, 32]⟩ by kernel_rfl]; rfl
  | 3, _ => rw [show textI (oneI 3) = ⟨#[110, 101, 103, 97, 116, 101, 32, 59, 32]⟩ by kernel_rfl]; rfl
  | 4, _ => rw [show textI (oneI 4) = ⟨#[40, 32, 110, 111, 116, 32]⟩ by kernel_rfl]; rfl
  | 5, _ => rw [show textI (oneI 5) = ⟨#[49, 32]⟩ by kernel_rfl]; rfl
  | k + 6, h => exact absurd h (by omega)
theorem lim_ahead (k : Nat) (h : k < 6) : [Value.string ⟨#[]⟩, .string ⟨#[116, 114, 97, 112, 32, 116, 32, 123, 32]⟩, .string ⟨#[116, 114, 97, 112, 32, 116, 32, 123, 32, 112, 108, 97, 121, 32]⟩, .string ⟨#[116, 114, 97, 112, 32, 116, 32, 123, 32, 112, 108, 97, 121, 32, 58, 32]⟩, .string ⟨#[]⟩, .string ⟨#[]⟩][k] = .string (textI (aheadI k)) := by
  match k, h with
  | 0, _ => rw [show textI (aheadI 0) = ⟨#[]⟩ by kernel_rfl]; rfl
  | 1, _ => rw [show textI (aheadI 1) = ⟨#[116, 114, 97, 112, 32, 116, 32, 123, 32]⟩ by kernel_rfl]; rfl
  | 2, _ => rw [show textI (aheadI 2) = ⟨#[116, 114, 97, 112, 32, 116, 32, 123, 32, 112, 108, 97, 121, 32]⟩ by kernel_rfl]; rfl
  | 3, _ => rw [show textI (aheadI 3) = ⟨#[116, 114, 97, 112, 32, 116, 32, 123, 32, 112, 108, 97, 121, 32, 58, 32]⟩ by kernel_rfl]; rfl
  | 4, _ => rw [show textI (aheadI 4) = ⟨#[]⟩ by kernel_rfl]; rfl
  | 5, _ => rw [show textI (aheadI 5) = ⟨#[]⟩ by kernel_rfl]; rfl
  | k + 6, h => exact absurd h (by omega)
theorem lim_behind (k : Nat) (h : k < 6) : [Value.string ⟨#[]⟩, .string ⟨#[125, 32]⟩, .string ⟨#[58, 32, 125, 32]⟩, .string ⟨#[125, 32]⟩, .string ⟨#[49, 32]⟩, .string ⟨#[]⟩][k] = .string (textI (behindI k)) := by
  match k, h with
  | 0, _ => rw [show textI (behindI 0) = ⟨#[]⟩ by kernel_rfl]; rfl
  | 1, _ => rw [show textI (behindI 1) = ⟨#[125, 32]⟩ by kernel_rfl]; rfl
  | 2, _ => rw [show textI (behindI 2) = ⟨#[58, 32, 125, 32]⟩ by kernel_rfl]; rfl
  | 3, _ => rw [show textI (behindI 3) = ⟨#[125, 32]⟩ by kernel_rfl]; rfl
  | 4, _ => rw [show textI (behindI 4) = ⟨#[49, 32]⟩ by kernel_rfl]; rfl
  | 5, _ => rw [show textI (behindI 5) = ⟨#[]⟩ by kernel_rfl]; rfl
  | k + 6, h => exact absurd h (by omega)
theorem one_le (k : Nat) (h : k < 6) : (textI (oneI k)).size ≤ 11 := by
  match k, h with
  | 0, _ | 1, _ | 2, _ | 3, _ | 4, _ | 5, _ => decide
  | k + 6, h => exact absurd h (by omega)
theorem ahead_le (k : Nat) (h : k < 6) : (textI (aheadI k)).size ≤ 16 := by
  match k, h with
  | 0, _ | 1, _ | 2, _ | 3, _ | 4, _ | 5, _ => decide
  | k + 6, h => exact absurd h (by omega)
theorem behind_le (k : Nat) (h : k < 6) : (textI (behindI k)).size ≤ 4 := by
  match k, h with
  | 0, _ | 1, _ | 2, _ | 3, _ | 4, _ | 5, _ => decide
  | k + 6, h => exact absurd h (by omega)
theorem head_size (k : Nat) : ∀ n, (textI (headI k n)).size = (textI (aheadI k)).size + n * (textI (oneI k)).size
  | 0 => by rw [head_zero]; simp
  | n + 1 => by rw [head_more, size_app, head_size k n, Nat.succ_mul]; omega
theorem pool_flt (s : ByteArray) (x l y : Int) (h : (poolOf s).2 = (x, l, y)) (w : World) (hs : s.size ≤ maxLen) (hT : PTabs w) : Calls Tryz.prog 6 #[.string s] w fun e w' => ∃ (a : Option Addr) (n c : Nat), e = .returned (.tuple #[.slice a n c, .agg #[.int .i64 x, .int .i64 l, .int .i64 y]]) ∧ Below w.heap.size w w' :=
  (pool_reads s w hs hT).mono fun e w' ⟨a, n, c, x', l', y', he, _, hf, hb⟩ => by
    rw [h] at hf
    simp only [Prod.mk.injEq] at hf
    obtain ⟨rfl, rfl, rfl⟩ := hf
    exact ⟨a, n, c, he, hb⟩
theorem exprs_flt (s : ByteArray) (x l y : Int) (h : (exprsOf s).2 = (x, l, y)) (w : World) (hs : s.size ≤ maxLen) (hT : PTabs w) : Calls Tryz.prog 8 #[.string s] w fun e w' => ∃ (a : Option Addr) (n c : Nat), e = .returned (.tuple #[.slice a n c, .agg #[.int .i64 x, .int .i64 l, .int .i64 y]]) ∧ Below w.heap.size w w' :=
  (exprs_reads s w hs hT).mono fun e w' ⟨a, n, c, x', l', y', he, _, hf, hb⟩ => by
    rw [h] at hf
    simp only [Prod.mk.injEq] at hf
    obtain ⟨rfl, rfl, rfl⟩ := hf
    exact ⟨a, n, c, he, hb⟩
theorem want_le {k n M : Nat} {x l y : Int} (h : (x, l, y) = wantF k n) (hM : mostI k = M) (hn : n ≤ M) : x = 0 ∧ l = 0 ∧ y = 0 := by
  unfold wantF at h
  rw [if_pos (by omega)] at h
  simpa using h
theorem want_gt {k n M : Nat} {x l y : Int} (h : (x, l, y) = wantF k n) (hM : mostI k = M) (hn : ¬ n ≤ M) : x = 3 ∧ l = 1 ∧ y = ((textI (aheadI k)).size : Int) + (M : Int) * ((textI (oneI k)).size : Int) + 1 := by
  unfold wantF at h
  rw [if_neg (by omega), hM] at h
  simpa using h
theorem mul_le {M o : Nat} (h : M ≤ 64) (h' : o ≤ 11) : (M : Int) * (o : Int) ≤ 704 := by
  have := Nat.mul_le_mul h h'
  have h2 : ((M * o : Nat) : Int) ≤ 704 := by omega
  simpa using h2
theorem rap_size (l : List Item) (n : Nat) : (textI (l ++ reps [iRap] n)).size = (textI l).size + n * 2 := by
  induction n with
  | zero => rw [lim_zero]; simp
  | succ n ih => rw [lim_more, size_app, ih, show (textI [iRap]).size = 2 by decide]; omega
theorem most_le (k : Nat) : mostI k ≤ 64 := by unfold mostI; split <;> omega
theorem most_pos (k : Nat) : 4 ≤ mostI k := by unfold mostI; split <;> omega

set_option maxHeartbeats 4000000 in
set_option maxRecDepth 100000 in
theorem limits_any (many what : Nat) (h1 : many < 256) (h2 : what < 256) (w : World) (hT : PTabs w) : Calls Tryz.prog 4 #[.int .u8 many, .int .u8 what] w fun e w' => e = .returned (.bool true) ∧ Below w.heap.size w w' := by
  have hk6 : what % 6 < 6 := Nat.mod_lt _ (by omega)
  go_enter Tryz.func4, Tryz.ntmps4
  go_wp2_with fail
  simp only [lim_most _ hk6, show ((what : Int) % 6) = ((what % 6 : Nat) : Int) by omega]
  generalize what % 6 = k at *
  have hM := most_le k
  have hM1 := most_pos k
  obtain ⟨M, hMe⟩ : ∃ M, mostI k = M := ⟨_, rfl⟩
  have HM := Lib.hid hMe
  rw [hMe] at hM hM1
  simp only [hMe]
  clear hMe
  go_simp
  go_wp2_with fail
  simp only [lim_ahead _ hk6]
  obtain ⟨n, hn, hnM⟩ : ∃ n : Nat, (many : Int) % ((M : Int) + 4) = n ∧ n < M + 4 := ⟨many % (M + 4), by simp, Nat.mod_lt _ (by omega)⟩
  simp only [hn]
  clear hn h1 h2
  obtain ⟨W, hW⟩ : ∃ W, W = (((w.alloc (.cells #[.string ⟨#[116, 114, 97, 112, 32, 116, 32, 123, 32, 125, 32]⟩, .string ⟨#[112, 108, 97, 121, 32, 58, 32]⟩, .string ⟨#[110, 101, 101, 100, 115, 32, 49, 32]⟩, .string ⟨#[110, 101, 103, 97, 116, 101, 32, 59, 32]⟩, .string ⟨#[40, 32, 110, 111, 116, 32]⟩, .string ⟨#[49, 32]⟩] 9)).alloc (.cells #[.int .i64 64, .int .i64 4, .int .i64 6, .int .i64 6, .int .i64 5, .int .i64 6] 3)).alloc (.cells #[.string ⟨#[]⟩, .string ⟨#[116, 114, 97, 112, 32, 116, 32, 123, 32]⟩, .string ⟨#[116, 114, 97, 112, 32, 116, 32, 123, 32, 112, 108, 97, 121, 32]⟩, .string ⟨#[116, 114, 97, 112, 32, 116, 32, 123, 32, 112, 108, 97, 121, 32, 58, 32]⟩, .string ⟨#[]⟩, .string ⟨#[]⟩] 9)).alloc (.cells #[.string ⟨#[]⟩, .string ⟨#[125, 32]⟩, .string ⟨#[58, 32, 125, 32]⟩, .string ⟨#[125, 32]⟩, .string ⟨#[49, 32]⟩, .string ⟨#[]⟩] 9) := ⟨_, rfl⟩
  have f1 : W.heap[w.heap.size]? = some (.cells #[.string ⟨#[116, 114, 97, 112, 32, 116, 32, 123, 32, 125, 32]⟩, .string ⟨#[112, 108, 97, 121, 32, 58, 32]⟩, .string ⟨#[110, 101, 101, 100, 115, 32, 49, 32]⟩, .string ⟨#[110, 101, 103, 97, 116, 101, 32, 59, 32]⟩, .string ⟨#[40, 32, 110, 111, 116, 32]⟩, .string ⟨#[49, 32]⟩] 9 (0, 0)) := by rw [hW]; exact heap_old (heap_old (heap_old (heap_alloc_new _ _)))
  have f2 : W.heap[w.heap.size + 1]? = some (.cells #[.int .i64 64, .int .i64 4, .int .i64 6, .int .i64 6, .int .i64 5, .int .i64 6] 3 (0, 0)) := by rw [hW]; exact heap_old (heap_old (heap_new_at _ _ _ (by simp)))
  have f3 : W.heap[w.heap.size + 1 + 1]? = some (.cells #[.string ⟨#[]⟩, .string ⟨#[116, 114, 97, 112, 32, 116, 32, 123, 32]⟩, .string ⟨#[116, 114, 97, 112, 32, 116, 32, 123, 32, 112, 108, 97, 121, 32]⟩, .string ⟨#[116, 114, 97, 112, 32, 116, 32, 123, 32, 112, 108, 97, 121, 32, 58, 32]⟩, .string ⟨#[]⟩, .string ⟨#[]⟩] 9 (0, 0)) := by rw [hW]; exact heap_old (heap_new_at _ _ _ (by simp))
  have f4 : W.heap[w.heap.size + 1 + 1 + 1]? = some (.cells #[.string ⟨#[]⟩, .string ⟨#[125, 32]⟩, .string ⟨#[58, 32, 125, 32]⟩, .string ⟨#[125, 32]⟩, .string ⟨#[49, 32]⟩, .string ⟨#[]⟩] 9 (0, 0)) := by rw [hW]; exact heap_new_at _ _ _ (by simp)
  have b0 : Below w.heap.size w W := by rw [hW]; exact ((((Below.refl _ _).alloc (Nat.le_refl _) _).alloc (by simp) _).alloc (by simp; omega) _).alloc (by simp; omega) _
  have c1 : W.cell? ⟨w.heap.size, k, none⟩ = some (.string (textI (oneI k))) := by rw [cell_blk f1, List.getElem?_toArray, List.getElem?_eq_getElem (by simpa using hk6), lim_one k hk6]
  have c2 : W.cell? ⟨w.heap.size + 1, k, none⟩ = some (.int .i64 M) := by rw [cell_blk f2, List.getElem?_toArray, List.getElem?_eq_getElem (by simpa using hk6), lim_most k hk6, HM.out]
  have c3 : W.cell? ⟨w.heap.size + 1 + 1, k, none⟩ = some (.string (textI (aheadI k))) := by rw [cell_blk f3, List.getElem?_toArray, List.getElem?_eq_getElem (by simpa using hk6), lim_ahead k hk6]
  have c4 : W.cell? ⟨w.heap.size + 1 + 1 + 1, k, none⟩ = some (.string (textI (behindI k))) := by rw [cell_blk f4, List.getElem?_toArray, List.getElem?_eq_getElem (by simpa using hk6), lim_behind k hk6]
  have HW := Lib.hid hW
  clear hW f1 f2 f3 f4
  rw [← HW.out]
  have TW := Lib.hid (hT.below b0)
  have B0 := Lib.hid b0
  have s1 := one_le k hk6
  have s2 := ahead_le k hk6
  have s3 := behind_le k hk6
  clear HW hT b0
  go_loopw [11, 12] (fun vt vi wr => ∃ i : Nat, i ≤ n ∧ vi = .int .i64 i ∧ vt = .string (textI (headI k i)) ∧ wr = W) (fun _ vi _ => n - (RowKit.intOf vi).toNat)
  case atStart => exact ⟨0, Nat.zero_le _, rfl, by rw [head_zero], rfl⟩
  case round =>
    obtain ⟨i, hi, rfl, rfl, rfl⟩ := hrel
    have hz := head_size k i
    have hz2 : i * (textI (oneI k)).size ≤ 67 * 11 := Nat.mul_le_mul (by omega) s1
    by_cases hlt : i < n
    · have HS := Lib.hid (head_more k i)
      have hz3 : (textI (headI k i)).size ≤ 800 := by omega
      clear hz hz2
      generalize textI (headI k i) = acc at *
      generalize textI (oneI k) = one at *
      go_wp2_with fail
      go_roundw
      case rel => exact ⟨i + 1, by omega, by go_num, by rw [HS.out], trivial⟩
      case measure => simp [RowKit.intOf]; omega
    · have hin : i = n := by omega
      subst hin
      have hz3 : (textI (headI k i)).size ≤ 800 := by omega
      have HB := Lib.hid (mid_text k i)
      clear hz hz2
      go_wp2_with fail
      rw [← HB.out]
      have lim := lim_told hk6 (show i < mostI k + 4 by rw [HM.out]; omega)
      have hz4 : ∀ j, j ≤ (if k = 4 then i else 0) → (textI (midI k i ++ reps [iRap] j)).size ≤ 3000 := fun j hj => by
        have h5 := lim.1
        have h6 := rap_size (midI k i) j
        have h7 := rap_size (midI k i) (if k = 4 then i else 0)
        unfold limI at h5
        omega
      have L := Lib.hid lim
      clear lim HB hz3
      have HR := Lib.hid (lim_more (midI k i))
      have HQ := Lib.hid (lim_zero (midI k i))
      have HL : Hid (limI k i = midI k i ++ reps [iRap] (if k = 4 then i else 0)) := rfl
      obtain ⟨m, hm⟩ : ∃ m, (if k = 4 then i else 0) = m := ⟨_, rfl⟩
      rw [hm] at hz4 HL
      have hmi : m ≤ i := by rw [← hm]; split <;> omega
      have H4 : k = 4 → m = i := fun h => by rw [← hm, if_pos h]
      have H0 : k ≠ 4 → m = 0 := fun h => by rw [← hm, if_neg h]
      clear hm
      generalize midI k i = mid at *
      have Z4 := Lib.hid hz4
      clear hz4
      go_loopw [11, 13] (fun vt vi wr' => ∃ j : Nat, j ≤ m ∧ vi = .int .i64 j ∧ vt = .string (textI (mid ++ reps [iRap] j)) ∧ wr' = wr) (fun _ vi _ => m - (RowKit.intOf vi).toNat)
      case atStart => exact ⟨0, Nat.zero_le _, rfl, by rw [HQ.out], rfl⟩
      case round =>
        obtain ⟨j, hj, rfl, rfl, rfl⟩ := hrel
        by_cases hlt2 : j < m
        · have hk4 : k = 4 := by by_cases h : k = 4; exact h; have := H0 h; omega
          have hk4' : (k : Int) = 4 := by omega
          have hji : j < i := by omega
          have HS := Lib.hid (HR.out j)
          have hz5 := Z4.out j (by omega)
          generalize textI (mid ++ reps [iRap] j) = acc at *
          clear H4 H0
          go_wp2_with fail
          go_roundw
          case rel => exact ⟨j + 1, by omega, by go_num, by rw [HS.out]; rfl, trivial⟩
          case measure => simp [RowKit.intOf]; omega
        · have hjm : j = m := by omega
          subst hjm
          have hend : j < i → ¬((k : Int) = 4) := by
            intro h h'
            have := H4 (by omega)
            omega
          rw [← HL.out]
          clear H4 H0 Z4 HR HQ HL
          have hz6 : (textI (limI k i)).size ≤ maxLen := by have := L.out.1; unfold maxLen; omega
          obtain ⟨x, l, y, hp⟩ : ∃ x l y, (poolOf (textI (limI k i))).2 = (x, l, y) := ⟨_, _, _, rfl⟩
          obtain ⟨x2, l2, y2, hp2⟩ : ∃ x l y, (exprsOf (textI (limI k i))).2 = (x, l, y) := ⟨_, _, _, rfl⟩
          have hw := L.out.2
          rw [hp, hp2] at hw
          have hL1 := fun W hW => pool_flt _ x l y hp W hz6 hW
          have hL2 := fun W hW => exprs_flt _ x2 l2 y2 hp2 W hz6 hW
          have P1 := Lib.hid hL1
          have P2 := Lib.hid hL2
          have HF := Lib.hid hw
          clear hL1 hL2 hw hp hp2 hz6 L
          generalize textI (limI k i) = s at *
          have Q1 := Lib.hid c1
          have Q2 := Lib.hid c2
          have Q3 := Lib.hid c3
          clear c1 c2 c3 c4 s3
          have hend' : (j < i ∧ ¬((k : Int) = 4)) ∨ ¬ j < i := by by_cases h : j < i; exact .inl ⟨h, hend h⟩; exact .inr h
          clear hend
          rcases hend' with ⟨hji, hend'⟩ | hji
          all_goals go_wp2_with fail
          all_goals refine (P1.out wr TW.out).mono ?_
          all_goals (
            rintro e w5 ⟨a5, n5, c5, rfl, b5⟩
            have T5 := Lib.hid ((TW.out.below b5).alloc (.cells #[.int .i64 x, .int .i64 l, .int .i64 y] 28))
            have K5 := Lib.hid (later_alloc b5 (.cells #[.int .i64 x, .int .i64 l, .int .i64 y] 28))
            have hb5 : wr.heap.size ≤ w5.heap.size := b5.size
            clear b5
            rcases Nat.lt_or_ge 3 k with hk3 | hk3
            · have hk3' : (3 : Int) < k := by omega
              rw [if_pos hk3] at HF
              go_wp2_with fail
              refine (P2.out _ T5.out).mono ?_
              rintro e w6 ⟨a6, n6, c6, rfl, b6⟩
              have hF := (b6.block w5.heap.size (by simp)).trans (heap_alloc_new w5 (.cells #[.int .i64 x, .int .i64 l, .int .i64 y] 28))
              have K6 := Lib.hid (later_trans K5.out b6)
              have z0 : w6.cell? ⟨w5.heap.size, 0, none⟩ = some (.int .i64 x) := by rw [cell_blk hF]; rfl
              have z1 : w6.cell? ⟨w5.heap.size, 1, none⟩ = some (.int .i64 l) := by rw [cell_blk hF]; rfl
              have z2 : w6.cell? ⟨w5.heap.size, 2, none⟩ = some (.int .i64 y) := by rw [cell_blk hF]; rfl
              have v0 : w6.frozen? ⟨w5.heap.size, 0, none⟩ = false := free_blk hF
              have v1 : w6.frozen? ⟨w5.heap.size, 1, none⟩ = false := free_blk hF
              have v2 : w6.frozen? ⟨w5.heap.size, 2, none⟩ = false := free_blk hF
              have h56 : w5.heap.size < w6.heap.size := heap_lt hF
              have HF6 := Lib.hid hF
              clear T5 b6 P2 hF
              go_upto_region 20 with fail
              obtain ⟨V, hV⟩ : ∃ V, V = ((w6.setCell ⟨w5.heap.size, 0, none⟩ (.int .i64 x2)).setCell ⟨w5.heap.size, 1, none⟩ (.int .i64 l2)).setCell ⟨w5.heap.size, 2, none⟩ (.int .i64 y2) := ⟨_, rfl⟩
              have hf : V.heap[w5.heap.size]? = some (.cells #[.int .i64 x2, .int .i64 l2, .int .i64 y2] 28 (0, 0)) := by rw [hV]; exact heap_set_to (heap_set_to (heap_set_to HF6.out rfl) rfl) rfl
              have kV : Below wr.heap.size wr V := by rw [hV]; exact Below.setCell (Below.setCell (Below.setCell K6.out hb5 _) hb5 _) hb5 _
              have q0 : V.cell? ⟨w5.heap.size, 0, none⟩ = some (.int .i64 x2) := by rw [cell_blk hf]; rfl
              have q1 : V.cell? ⟨w5.heap.size, 1, none⟩ = some (.int .i64 l2) := by rw [cell_blk hf]; rfl
              have q2 : V.cell? ⟨w5.heap.size, 2, none⟩ = some (.int .i64 y2) := by rw [cell_blk hf]; rfl
              have r1 := cell_later kV Q1.out
              have r2 := cell_later kV Q2.out
              have r3 := cell_later kV Q3.out
              have TV := Lib.hid (TW.out.below kV)
              have BV := Lib.hid (B0.out.trans (kV.mono B0.out.size))
              have HV := Lib.hid hV
              clear hV hf kV z0 z1 z2 v0 v1 v2 K6 K5 HF6
              rw [← HV.out]
              clear HV
              have LV : Hid (∀ V', Below V.heap.size V V' → (V'.cell? ⟨w.heap.size, k, none⟩ = some (.string (textI (oneI k))) ∧ V'.cell? ⟨w.heap.size + 1, k, none⟩ = some (.int .i64 M) ∧ V'.cell? ⟨w.heap.size + 1 + 1, k, none⟩ = some (.string (textI (aheadI k)))) ∧ (V'.cell? ⟨w5.heap.size, 0, none⟩ = some (.int .i64 x2) ∧ V'.cell? ⟨w5.heap.size, 1, none⟩ = some (.int .i64 l2) ∧ V'.cell? ⟨w5.heap.size, 2, none⟩ = some (.int .i64 y2))) := fun V' hb => ⟨⟨cell_later hb r1, cell_later hb r2, cell_later hb r3⟩, ⟨cell_later hb q0, cell_later hb q1, cell_later hb q2⟩⟩
              by_cases hle : i ≤ M
              · obtain ⟨rfl, rfl, rfl⟩ := want_le HF HM.out hle
                go_wp2_with fail
                refine (plives_any _ TV.out).mono ?_
                rintro e w7 ⟨rfl, b7⟩
                go_wp2_with fail
                refine bodyPost_ret (v := .bool true) (by simp [results, Tryz.results4, go_sem]) rfl ?_
                exact ⟨rfl, BV.out.trans (b7.mono BV.out.size)⟩
              · obtain ⟨rfl, rfl, rfl⟩ := want_gt HF HM.out hle
                have hp1 : ((M : Int) * ((textI (oneI k)).size : Int)) ≤ 704 := mul_le hM s1
                have hp0 : 0 ≤ ((M : Int) * ((textI (oneI k)).size : Int)) := Int.mul_nonneg (by omega) (by omega)
                go_wp2_with fail
                have i0 : (0 : Int) ≤ k := by omega
                have i1 : (k : Int) < 6 := by omega
                have i2 : (k : Int) < ((6 : Nat) : Int) := by omega
                have s4 : IntKind.i64.wrap ((M : Int) * ((textI (oneI k)).size : Int)) = (M : Int) * ((textI (oneI k)).size : Int) := IntWalk.i64_in _ (by omega)
                have s5 : IntKind.i64.wrap (((textI (aheadI k)).size : Int) + (M : Int) * ((textI (oneI k)).size : Int)) = ((textI (aheadI k)).size : Int) + (M : Int) * ((textI (oneI k)).size : Int) := IntWalk.i64_in _ (by omega)
                have s6 : IntKind.i64.wrap (((textI (aheadI k)).size : Int) + (M : Int) * ((textI (oneI k)).size : Int) + 1) = ((textI (aheadI k)).size : Int) + (M : Int) * ((textI (oneI k)).size : Int) + 1 := IntWalk.i64_in _ (by omega)
                go_region_held3 (fun w' => (w'.cell? ⟨w.heap.size, k, none⟩ = some (.string (textI (oneI k))) ∧ w'.cell? ⟨w.heap.size + 1, k, none⟩ = some (.int .i64 M) ∧ w'.cell? ⟨w.heap.size + 1 + 1, k, none⟩ = some (.string (textI (aheadI k)))) ∧ (w'.cell? ⟨w5.heap.size, 0, none⟩ = some (.int .i64 3) ∧ w'.cell? ⟨w5.heap.size, 1, none⟩ = some (.int .i64 1) ∧ w'.cell? ⟨w5.heap.size, 2, none⟩ = some (.int .i64 (((textI (aheadI k)).size : Int) + (M : Int) * ((textI (oneI k)).size : Int) + 1)))) (first | go_keep | (with_reducible exact q7) | (with_reducible exact q8))
                  (first
                    | (go_at_call 12; refine (at_any 3 _ _).mono ?_; rintro e w7 ⟨rfl, b7⟩; have hb7 : Below V.heap.size V w7 := ((Below.refl _ _).drew.trans (b7.mono (by simp))); have q7 := LV.out w7 hb7; have HB7 := Lib.hid hb7)
                    | (go_at_call 5; refine (plives_any _ (TV.out.below HB7.out)).mono ?_; rintro e w8 ⟨rfl, b8⟩; have hb8 : Below V.heap.size V w8 := HB7.out.trans (b8.mono HB7.out.size); have q8 := LV.out w8 hb8; have HB8 := Lib.hid hb8))
                go_wp2_with fail
                refine bodyPost_ret (v := .bool true) (by simp [results, Tryz.results4, go_sem]) rfl ?_
                exact ⟨rfl, BV.out.trans (HB8.out.mono BV.out.size)⟩
            · have hk3' : ¬ (3 : Int) < k := by omega
              rw [if_neg (by omega)] at HF
              go_upto_region 20 with fail
              obtain ⟨V, hV⟩ : ∃ V, V = w5.alloc (.cells #[.int .i64 x, .int .i64 l, .int .i64 y] 28) := ⟨_, rfl⟩
              rw [← hV] at T5 K5
              have hf : V.heap[w5.heap.size]? = some (.cells #[.int .i64 x, .int .i64 l, .int .i64 y] 28 (0, 0)) := by rw [hV]; exact heap_alloc_new _ _
              have q0 : V.cell? ⟨w5.heap.size, 0, none⟩ = some (.int .i64 x) := by rw [cell_blk hf]; rfl
              have q1 : V.cell? ⟨w5.heap.size, 1, none⟩ = some (.int .i64 l) := by rw [cell_blk hf]; rfl
              have q2 : V.cell? ⟨w5.heap.size, 2, none⟩ = some (.int .i64 y) := by rw [cell_blk hf]; rfl
              have r1 := cell_later K5.out Q1.out
              have r2 := cell_later K5.out Q2.out
              have r3 := cell_later K5.out Q3.out
              have TV := T5
              have BV := Lib.hid (B0.out.trans (K5.out.mono B0.out.size))
              have HV := Lib.hid hV
              clear hV hf T5 K5
              rw [← HV.out]
              clear HV
              have LV : Hid (∀ V', Below V.heap.size V V' → (V'.cell? ⟨w.heap.size, k, none⟩ = some (.string (textI (oneI k))) ∧ V'.cell? ⟨w.heap.size + 1, k, none⟩ = some (.int .i64 M) ∧ V'.cell? ⟨w.heap.size + 1 + 1, k, none⟩ = some (.string (textI (aheadI k)))) ∧ (V'.cell? ⟨w5.heap.size, 0, none⟩ = some (.int .i64 x) ∧ V'.cell? ⟨w5.heap.size, 1, none⟩ = some (.int .i64 l) ∧ V'.cell? ⟨w5.heap.size, 2, none⟩ = some (.int .i64 y))) := fun V' hb => ⟨⟨cell_later hb r1, cell_later hb r2, cell_later hb r3⟩, ⟨cell_later hb q0, cell_later hb q1, cell_later hb q2⟩⟩
              by_cases hle : i ≤ M
              · obtain ⟨rfl, rfl, rfl⟩ := want_le HF HM.out hle
                go_wp2_with fail
                refine (plives_any _ TV.out).mono ?_
                rintro e w7 ⟨rfl, b7⟩
                go_wp2_with fail
                refine bodyPost_ret (v := .bool true) (by simp [results, Tryz.results4, go_sem]) rfl ?_
                exact ⟨rfl, BV.out.trans (b7.mono BV.out.size)⟩
              · obtain ⟨rfl, rfl, rfl⟩ := want_gt HF HM.out hle
                have hp1 : ((M : Int) * ((textI (oneI k)).size : Int)) ≤ 704 := mul_le hM s1
                have hp0 : 0 ≤ ((M : Int) * ((textI (oneI k)).size : Int)) := Int.mul_nonneg (by omega) (by omega)
                go_wp2_with fail
                have i0 : (0 : Int) ≤ k := by omega
                have i1 : (k : Int) < 6 := by omega
                have i2 : (k : Int) < ((6 : Nat) : Int) := by omega
                have s4 : IntKind.i64.wrap ((M : Int) * ((textI (oneI k)).size : Int)) = (M : Int) * ((textI (oneI k)).size : Int) := IntWalk.i64_in _ (by omega)
                have s5 : IntKind.i64.wrap (((textI (aheadI k)).size : Int) + (M : Int) * ((textI (oneI k)).size : Int)) = ((textI (aheadI k)).size : Int) + (M : Int) * ((textI (oneI k)).size : Int) := IntWalk.i64_in _ (by omega)
                have s6 : IntKind.i64.wrap (((textI (aheadI k)).size : Int) + (M : Int) * ((textI (oneI k)).size : Int) + 1) = ((textI (aheadI k)).size : Int) + (M : Int) * ((textI (oneI k)).size : Int) + 1 := IntWalk.i64_in _ (by omega)
                go_region_held3 (fun w' => (w'.cell? ⟨w.heap.size, k, none⟩ = some (.string (textI (oneI k))) ∧ w'.cell? ⟨w.heap.size + 1, k, none⟩ = some (.int .i64 M) ∧ w'.cell? ⟨w.heap.size + 1 + 1, k, none⟩ = some (.string (textI (aheadI k)))) ∧ (w'.cell? ⟨w5.heap.size, 0, none⟩ = some (.int .i64 3) ∧ w'.cell? ⟨w5.heap.size, 1, none⟩ = some (.int .i64 1) ∧ w'.cell? ⟨w5.heap.size, 2, none⟩ = some (.int .i64 (((textI (aheadI k)).size : Int) + (M : Int) * ((textI (oneI k)).size : Int) + 1)))) (first | go_keep | (with_reducible exact q7) | (with_reducible exact q8))
                  (first
                    | (go_at_call 12; refine (at_any 3 _ _).mono ?_; rintro e w7 ⟨rfl, b7⟩; have hb7 : Below V.heap.size V w7 := ((Below.refl _ _).drew.trans (b7.mono (by simp))); have q7 := LV.out w7 hb7; have HB7 := Lib.hid hb7)
                    | (go_at_call 5; refine (plives_any _ (TV.out.below HB7.out)).mono ?_; rintro e w8 ⟨rfl, b8⟩; have hb8 : Below V.heap.size V w8 := HB7.out.trans (b8.mono HB7.out.size); have q8 := LV.out w8 hb8; have HB8 := Lib.hid hb8))
                go_wp2_with fail
                refine bodyPost_ret (v := .bool true) (by simp [results, Tryz.results4, go_sem]) rfl ?_
                exact ⟨rfl, BV.out.trans (HB8.out.mono BV.out.size)⟩)
end Go.Proofs.YtaffgdgdojdoiaaGreatDoor
