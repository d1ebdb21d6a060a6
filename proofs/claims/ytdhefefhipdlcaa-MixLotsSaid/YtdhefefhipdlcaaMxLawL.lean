/- joustlaw27.MixLots: the whole law, walked. -/
import Derived.Test.YtdhefefhipdlcaaMxRScript
import Derived.Test.YtdhefefhipdlcaaMxLives
namespace Go.Proofs.Ytdhefefhipdlcaa
open Go.RowKit Go.Lib

theorem lots_both (xs : List Int) : ∃ (r : List Int) (er : Int), r.length ≤ maxLen ∧
    (∀ p c w, IntsAt w p xs → Calls Try.prog 20 #[.slice p xs.length c] w fun e w' => ∃ v, e = .returned (.tuple #[v, .int .i64 er]) ∧ IL w' w.heap.size v r ∧ Below w.heap.size w w') ∧
    (∀ p c w, IntsAt w p xs → Calls Try.prog 21 #[.slice p xs.length c] w fun e w' => ∃ v, e = .returned (.tuple #[v, .int .i64 er]) ∧ IL w' w.heap.size v r ∧ Below w.heap.size w w') := by
  by_cases h : 1000 < xs.length
  · exact ⟨[], 2, by simp, fun p c w _ => (lots_err p _ c h w).mono fun e w' ⟨he, hw⟩ => ⟨_, he, IL.nil _ _, by rw [hw]; exact Below.refl _ _⟩, fun p c w _ => (rlots_big p _ c h w).mono fun e w' ⟨he, hw⟩ => ⟨_, he, IL.nil _ _, by rw [hw]; exact Below.refl _ _⟩⟩
  · refine ⟨_, _, ?_, fun p c w hx => lots_any p c xs w hx (by omega), fun p c w hx => rlots_any p c xs w hx (by omega)⟩
    cases hl : lotsI (upI xs.length) xs with
    | none => simp
    | some r => have := (lots_bd (upI_sorted _) hl).1; unfold maxLen; simp; omega
theorem of_both (xs : List Int) : ∃ (r : List Int) (er : Int), r.length ≤ maxLen ∧
    (∀ p c w, IntsAt w p xs → Calls Try.prog 22 #[.slice p xs.length c] w fun e w' => ∃ v, e = .returned (.tuple #[v, .int .i64 er]) ∧ IL w' w.heap.size v r ∧ Below w.heap.size w w') ∧
    (∀ p c w, IntsAt w p xs → Calls Try.prog 23 #[.slice p xs.length c] w fun e w' => ∃ v, e = .returned (.tuple #[v, .int .i64 er]) ∧ IL w' w.heap.size v r ∧ Below w.heap.size w w') := by
  by_cases h : 1000 < xs.length
  · exact ⟨[], 2, by simp, fun p c w _ => (of_err p _ c h w).mono fun e w' ⟨he, hw⟩ => ⟨_, he, IL.nil _ _, by rw [hw]; exact Below.refl _ _⟩, fun p c w _ => (rof_big p _ c h w).mono fun e w' ⟨he, hw⟩ => ⟨_, he, IL.nil _ _, by rw [hw]; exact Below.refl _ _⟩⟩
  · refine ⟨_, _, ?_, fun p c w hx => of_any p c xs w hx (by omega), fun p c w hx => rof_any p c xs w hx (by omega)⟩
    cases hl : ofI (upI xs.length) xs with
    | none => simp
    | some r => have := of_length hl; unfold maxLen; simp; omega
theorem script_both (seed : Nat) (n0 n1 : Int) : ∃ (r : List Int) (er : Int), r.length ≤ maxLen ∧
    (∀ w, Calls Try.prog 24 #[.int .u64 (seed : Int), twoI n0 n1] w fun e w' => ∃ v, e = .returned (.tuple #[v, .int .i64 er]) ∧ IL w' w.heap.size v r ∧ Below w.heap.size w w') ∧
    (∀ w, Calls Try.prog 25 #[.int .u64 (seed : Int), twoI n0 n1] w fun e w' => ∃ v, e = .returned (.tuple #[v, .int .i64 er]) ∧ IL w' w.heap.size v r ∧ Below w.heap.size w w') := by
  by_cases h0 : badN n0
  · exact ⟨[], 2, by simp, fun w => (script_bad0 seed n0 n1 h0 w).mono fun e w' ⟨he, hb⟩ => ⟨_, he, IL.nil _ _, hb⟩, fun w => (rscript_bad0 seed n0 n1 h0 w).mono fun e w' ⟨he, hb⟩ => ⟨_, he, IL.nil _ _, hb⟩⟩
  · unfold badN at h0
    obtain ⟨k0, rfl⟩ : ∃ k : Nat, n0 = (k : Int) := ⟨n0.toNat, by omega⟩
    by_cases h1 : badN n1
    · exact ⟨[], 2, by simp, fun w => (script_bad1 seed k0 n1 (by omega) h1 w).mono fun e w' ⟨he, hb⟩ => ⟨_, he, IL.nil _ _, hb⟩, fun w => (rscript_bad1 seed k0 n1 (by omega) h1 w).mono fun e w' ⟨he, hb⟩ => ⟨_, he, IL.nil _ _, hb⟩⟩
    · unfold badN at h1
      obtain ⟨k1, rfl⟩ : ∃ k : Nat, n1 = (k : Int) := ⟨n1.toNat, by omega⟩
      exact ⟨lotL seed k0 ++ lotL (mixN seed) k1, 0, by rw [List.length_append, lotL_length, lotL_length]; unfold maxLen; omega, fun w => script_ok seed k0 k1 (by omega) (by omega) w, fun w => rscript_ok seed k0 k1 (by omega) (by omega) w⟩
theorem same_any (w : World) (p q : Option Addr) (c d n m : Nat) (xs : List Int) (hx : IntsAt w p xs) (hy : IntsAt w q xs) (hn : xs.length = n) (hm : xs.length = m) (hs : xs.length ≤ maxLen) :
    Calls Try.prog 19 #[.slice p n c, .slice q m d] w fun e w' => e = .returned (.bool true) ∧ Below w.heap.size w w' := by
  subst hn; subst hm
  have := ints_any w p q c d xs xs hx hy hs hs
  rwa [show sameB xs xs = true by simp [sameB]] at this

set_option maxHeartbeats 8000000 in
set_option maxRecDepth 100000 in
theorem mixlots_any (q : Option Addr) (c : Nat) (xs : List Int) (seed : Nat) (n0 n1 : Int) (w : World) (hx : IntsAt w q xs) (hq : q = none → c = 0) (hlen : xs.length * 8 ≤ 140737488355328) :
    Calls Try.prog 4 #[.slice q xs.length c, .int .u64 (seed : Int), twoI n0 n1] w fun e w' => e = .returned (.bool true) ∧ Below w.heap.size w w' := by
  obtain ⟨W0, hW0⟩ : ∃ W0, w.alloc (.cells #[.int .i64 n0, .int .i64 n1] 37) = W0 := ⟨_, rfl⟩
  have hB0 : Below w.heap.size w W0 := by rw [← hW0]; exact (Below.refl _ _).alloc (Nat.le_refl _) _
  have hb0 : W0.heap[w.heap.size]? = some (.cells #[.int .i64 n0, .int .i64 n1] 37 (0, 0)) := by rw [← hW0]; exact heap_alloc_new _ _
  have hx0 := hx.below hB0
  obtain ⟨y0, w1, ra, ia, ga⟩ := app_ints W0 32 w.heap.size (.slice none 0 0) [] xs q c (IL.nil _ _) hB0.size hx0 hq (by simpa using hlen)
  have hB1 := hB0.grown ga hB0.size (fun j e => by cases e)
  obtain ⟨p1, c1, rfl, ip1⟩ := ia.ints
  simp only [List.nil_append] at ip1 ra
  obtain ⟨r1, e1, hr1, L1, L2⟩ := lots_both xs
  obtain ⟨r2, e2, hr2, O1, O2⟩ := of_both xs
  obtain ⟨r3, e3, hr3, S1, S2⟩ := script_both seed n0 n1
  have HW0 := Lib.hid hW0
  have HB0 := Lib.hid hB0
  have Hb0 := Lib.hid hb0
  have HB1 := Lib.hid hB1
  have Hb1 := Lib.hid ((ga.block _ (heap_lt hb0) (fun e => by cases e)).trans hb0)
  have IP := Lib.hid ip1
  have IX := Lib.hid (hx0.below ⟨ga.os, ga.tape, ga.output, ga.size, fun i hi => ga.block i hi (fun e => by cases e)⟩)
  have HL1 := Lib.hid L1
  have HL2 := Lib.hid L2
  have HO1 := Lib.hid O1
  have HO2 := Lib.hid O2
  have HS1 := Lib.hid S1
  have HS2 := Lib.hid S2
  have HM1 := Lib.hid hr1
  have HM2 := Lib.hid hr2
  have HM3 := Lib.hid hr3
  have HM0 := Lib.hid (show xs.length ≤ maxLen by unfold maxLen; omega)
  have q1 : (e1 != e1) = false := by simp
  have q2 : (e2 != e2) = false := by simp
  have q3 : (e3 == e3) = true := by simp
  obtain ⟨n, hn⟩ : ∃ n, n = xs.length := ⟨_, rfl⟩
  rw [← hn] at ra HL1 HL2 HO1 HO2 ⊢
  have HN := Lib.hid hn
  clear hx hq hlen hW0 hB0 hb0 hx0 ia ga hB1 ip1 L1 L2 O1 O2 S1 S2 hr1 hr2 hr3 hn
  go_enter Try.func4, Try.ntmps4
  go_upto_region 1 with fail
  rw [HW0.out]
  go_cut [45] from 18 to 45 (fun s45 wx => s45 = .bool (decide ((60 < n ∧ n ≤ 1000) ∨ (60 < n0 ∧ n0 ≤ 1000) ∨ (60 < n1 ∧ n1 ≤ 1000))) ∧ wx = W0)
  case first =>
    as_aux_lemma =>
      have z0 := cell_blk (i := 0) Hb0.out
      have z1 := cell_blk (i := 1) Hb0.out
      simp at z0 z1
      by_cases a1 : (60 : Int) < (n : Int)
      · by_cases a2 : (n : Int) ≤ 1000
        · go_wp2_with fail
          go_meet
          first | exact ⟨congrArg Value.bool (decide_eq_true (by omega)).symm, rfl⟩ | exact ⟨congrArg Value.bool (decide_eq_false (by omega)).symm, rfl⟩
        · by_cases b1 : 60 < n0
          · by_cases b2 : n0 ≤ 1000
            · go_wp2_with fail
              go_meet
              first | exact ⟨congrArg Value.bool (decide_eq_true (by omega)).symm, rfl⟩ | exact ⟨congrArg Value.bool (decide_eq_false (by omega)).symm, rfl⟩
            · by_cases d1 : 60 < n1
              · by_cases d2 : n1 ≤ 1000
                · go_wp2_with fail
                  go_meet
                  first | exact ⟨congrArg Value.bool (decide_eq_true (by omega)).symm, rfl⟩ | exact ⟨congrArg Value.bool (decide_eq_false (by omega)).symm, rfl⟩
                · go_wp2_with fail
                  go_meet
                  first | exact ⟨congrArg Value.bool (decide_eq_true (by omega)).symm, rfl⟩ | exact ⟨congrArg Value.bool (decide_eq_false (by omega)).symm, rfl⟩
              · go_wp2_with fail
                go_meet
                first | exact ⟨congrArg Value.bool (decide_eq_true (by omega)).symm, rfl⟩ | exact ⟨congrArg Value.bool (decide_eq_false (by omega)).symm, rfl⟩
          · by_cases d1 : 60 < n1
            · by_cases d2 : n1 ≤ 1000
              · go_wp2_with fail
                go_meet
                first | exact ⟨congrArg Value.bool (decide_eq_true (by omega)).symm, rfl⟩ | exact ⟨congrArg Value.bool (decide_eq_false (by omega)).symm, rfl⟩
              · go_wp2_with fail
                go_meet
                first | exact ⟨congrArg Value.bool (decide_eq_true (by omega)).symm, rfl⟩ | exact ⟨congrArg Value.bool (decide_eq_false (by omega)).symm, rfl⟩
            · go_wp2_with fail
              go_meet
              first | exact ⟨congrArg Value.bool (decide_eq_true (by omega)).symm, rfl⟩ | exact ⟨congrArg Value.bool (decide_eq_false (by omega)).symm, rfl⟩
      · by_cases b1 : 60 < n0
        · by_cases b2 : n0 ≤ 1000
          · go_wp2_with fail
            go_meet
            first | exact ⟨congrArg Value.bool (decide_eq_true (by omega)).symm, rfl⟩ | exact ⟨congrArg Value.bool (decide_eq_false (by omega)).symm, rfl⟩
          · by_cases d1 : 60 < n1
            · by_cases d2 : n1 ≤ 1000
              · go_wp2_with fail
                go_meet
                first | exact ⟨congrArg Value.bool (decide_eq_true (by omega)).symm, rfl⟩ | exact ⟨congrArg Value.bool (decide_eq_false (by omega)).symm, rfl⟩
              · go_wp2_with fail
                go_meet
                first | exact ⟨congrArg Value.bool (decide_eq_true (by omega)).symm, rfl⟩ | exact ⟨congrArg Value.bool (decide_eq_false (by omega)).symm, rfl⟩
            · go_wp2_with fail
              go_meet
              first | exact ⟨congrArg Value.bool (decide_eq_true (by omega)).symm, rfl⟩ | exact ⟨congrArg Value.bool (decide_eq_false (by omega)).symm, rfl⟩
        · by_cases d1 : 60 < n1
          · by_cases d2 : n1 ≤ 1000
            · go_wp2_with fail
              go_meet
              first | exact ⟨congrArg Value.bool (decide_eq_true (by omega)).symm, rfl⟩ | exact ⟨congrArg Value.bool (decide_eq_false (by omega)).symm, rfl⟩
            · go_wp2_with fail
              go_meet
              first | exact ⟨congrArg Value.bool (decide_eq_true (by omega)).symm, rfl⟩ | exact ⟨congrArg Value.bool (decide_eq_false (by omega)).symm, rfl⟩
          · go_wp2_with fail
            go_meet
            first | exact ⟨congrArg Value.bool (decide_eq_true (by omega)).symm, rfl⟩ | exact ⟨congrArg Value.bool (decide_eq_false (by omega)).symm, rfl⟩
  case rest =>
    as_aux_lemma =>
      obtain ⟨rfl, hw⟩ := hcut
      have hw := hw.symm
      subst hw
      by_cases hD : (60 < n ∧ n ≤ 1000) ∨ (60 < n0 ∧ n0 ≤ 1000) ∨ (60 < n1 ∧ n1 ≤ 1000)
      · have hd := decide_eq_true hD
        rw [hd]
        clear hD hd
        go_wp2_with (go_at_call 8; refine (lives_any _).mono ?_; rintro e w2 ⟨rfl, hb⟩; have HB2 := Lib.hid hb; clear hb)
        go_ret
        exact ⟨rfl, HB0.out.trans (HB2.out.mono HB0.out.size)⟩
      · have hd := decide_eq_false hD
        rw [hd]
        clear hD hd
        go_wp2_with (at_builtin; refine wpList_append_ran rfl _ _ 32 rfl rfl rfl ra ?_)
        with_reducible refine (HL1.out _ _ _ IP.out).mono ?_
        rintro e x1 ⟨v1, rfl, il1, hb⟩
        obtain ⟨p1', c1', rfl, ii1⟩ := il1.ints
        have Hb1 := Lib.hid ((hb.block _ (heap_lt Hb1.out)).trans Hb1.out)
        have IP := Lib.hid (IP.out.below hb)
        have IX := Lib.hid (IX.out.below hb)
        have HB1 := Lib.hid (HB1.out.trans (hb.mono HB1.out.size))
        have I1 := Lib.hid ii1
        clear il1 ii1 hb
        go_wp2_with fail
        with_reducible refine (HL2.out _ _ _ IX.out).mono ?_
        rintro e x2 ⟨v2, rfl, il2, hb⟩
        obtain ⟨p2', c2', rfl, ii2⟩ := il2.ints
        have Hb1 := Lib.hid ((hb.block _ (heap_lt Hb1.out)).trans Hb1.out)
        have IP := Lib.hid (IP.out.below hb)
        have IX := Lib.hid (IX.out.below hb)
        have I1 := Lib.hid (I1.out.below hb)
        have HB1 := Lib.hid (HB1.out.trans (hb.mono HB1.out.size))
        have I2 := Lib.hid ii2
        clear il2 ii2 hb
        go_wp2_with fail
        with_reducible refine (HO1.out _ _ _ IP.out).mono ?_
        rintro e x3 ⟨v3, rfl, il3, hb⟩
        obtain ⟨p3', c3', rfl, ii3⟩ := il3.ints
        have Hb1 := Lib.hid ((hb.block _ (heap_lt Hb1.out)).trans Hb1.out)
        have IP := Lib.hid (IP.out.below hb)
        have IX := Lib.hid (IX.out.below hb)
        have I1 := Lib.hid (I1.out.below hb)
        have I2 := Lib.hid (I2.out.below hb)
        have HB1 := Lib.hid (HB1.out.trans (hb.mono HB1.out.size))
        have I3 := Lib.hid ii3
        clear il3 ii3 hb
        go_wp2_with fail
        with_reducible refine (HO2.out _ _ _ IX.out).mono ?_
        rintro e x4 ⟨v4, rfl, il4, hb⟩
        obtain ⟨p4', c4', rfl, ii4⟩ := il4.ints
        have Hb1 := Lib.hid ((hb.block _ (heap_lt Hb1.out)).trans Hb1.out)
        have IP := Lib.hid (IP.out.below hb)
        have IX := Lib.hid (IX.out.below hb)
        have I1 := Lib.hid (I1.out.below hb)
        have I2 := Lib.hid (I2.out.below hb)
        have I3 := Lib.hid (I3.out.below hb)
        have HB1 := Lib.hid (HB1.out.trans (hb.mono HB1.out.size))
        have I4 := Lib.hid ii4
        clear il4 ii4 hb
        go_wp2_with fail
        refine (same_any _ _ _ _ _ _ _ r1 I1.out I2.out rfl rfl HM1.out).mono ?_
        rintro e x5 ⟨rfl, hb⟩
        have Hb1 := Lib.hid ((hb.block _ (heap_lt Hb1.out)).trans Hb1.out)
        have IP := Lib.hid (IP.out.below hb)
        have IX := Lib.hid (IX.out.below hb)
        have I1 := Lib.hid (I1.out.below hb)
        have I2 := Lib.hid (I2.out.below hb)
        have I3 := Lib.hid (I3.out.below hb)
        have I4 := Lib.hid (I4.out.below hb)
        have HB1 := Lib.hid (HB1.out.trans (hb.mono HB1.out.size))
        clear hb
        go_wp2_with fail
        refine (same_any _ _ _ _ _ _ _ r2 I3.out I4.out rfl rfl HM2.out).mono ?_
        rintro e x6 ⟨rfl, hb⟩
        have Hb1 := Lib.hid ((hb.block _ (heap_lt Hb1.out)).trans Hb1.out)
        have IP := Lib.hid (IP.out.below hb)
        have IX := Lib.hid (IX.out.below hb)
        have I1 := Lib.hid (I1.out.below hb)
        have I2 := Lib.hid (I2.out.below hb)
        have I3 := Lib.hid (I3.out.below hb)
        have I4 := Lib.hid (I4.out.below hb)
        have HB1 := Lib.hid (HB1.out.trans (hb.mono HB1.out.size))
        clear hb
        go_wp2_with fail
        refine (same_any _ _ _ _ _ _ _ xs IP.out IX.out HN.out.symm HN.out.symm HM0.out).mono ?_
        rintro e x7 ⟨rfl, hb⟩
        have Hb1 := Lib.hid ((hb.block _ (heap_lt Hb1.out)).trans Hb1.out)
        have IP := Lib.hid (IP.out.below hb)
        have IX := Lib.hid (IX.out.below hb)
        have I1 := Lib.hid (I1.out.below hb)
        have I2 := Lib.hid (I2.out.below hb)
        have I3 := Lib.hid (I3.out.below hb)
        have I4 := Lib.hid (I4.out.below hb)
        have HB1 := Lib.hid (HB1.out.trans (hb.mono HB1.out.size))
        clear hb
        have z0 := cell_blk (i := 0) Hb1.out
        have z1 := cell_blk (i := 1) Hb1.out
        simp at z0 z1
        go_wp2_with fail
        with_reducible refine (HS1.out _).mono ?_
        rintro e x8 ⟨v8, rfl, il8, hb⟩
        obtain ⟨p8', c8', rfl, ii8⟩ := il8.ints
        have Hb1 := Lib.hid ((hb.block _ (heap_lt Hb1.out)).trans Hb1.out)
        have IP := Lib.hid (IP.out.below hb)
        have IX := Lib.hid (IX.out.below hb)
        have I1 := Lib.hid (I1.out.below hb)
        have I2 := Lib.hid (I2.out.below hb)
        have I3 := Lib.hid (I3.out.below hb)
        have I4 := Lib.hid (I4.out.below hb)
        have HB1 := Lib.hid (HB1.out.trans (hb.mono HB1.out.size))
        have I8 := Lib.hid ii8
        clear il8 ii8 hb
        clear z0 z1
        have z0 := cell_blk (i := 0) Hb1.out
        have z1 := cell_blk (i := 1) Hb1.out
        simp at z0 z1
        go_wp2_with fail
        with_reducible refine (HS2.out _).mono ?_
        rintro e x9 ⟨v9, rfl, il9, hb⟩
        obtain ⟨p9', c9', rfl, ii9⟩ := il9.ints
        have Hb1 := Lib.hid ((hb.block _ (heap_lt Hb1.out)).trans Hb1.out)
        have IP := Lib.hid (IP.out.below hb)
        have IX := Lib.hid (IX.out.below hb)
        have I1 := Lib.hid (I1.out.below hb)
        have I2 := Lib.hid (I2.out.below hb)
        have I3 := Lib.hid (I3.out.below hb)
        have I4 := Lib.hid (I4.out.below hb)
        have I8 := Lib.hid (I8.out.below hb)
        have HB1 := Lib.hid (HB1.out.trans (hb.mono HB1.out.size))
        have I9 := Lib.hid ii9
        clear il9 ii9 hb
        clear z0 z1
        go_wp2_with fail
        refine (same_any _ _ _ _ _ _ _ r3 I8.out I9.out rfl rfl HM3.out).mono ?_
        rintro e x10 ⟨rfl, hb⟩
        have Hb1 := Lib.hid ((hb.block _ (heap_lt Hb1.out)).trans Hb1.out)
        have IP := Lib.hid (IP.out.below hb)
        have IX := Lib.hid (IX.out.below hb)
        have I1 := Lib.hid (I1.out.below hb)
        have I2 := Lib.hid (I2.out.below hb)
        have I3 := Lib.hid (I3.out.below hb)
        have I4 := Lib.hid (I4.out.below hb)
        have I8 := Lib.hid (I8.out.below hb)
        have I9 := Lib.hid (I9.out.below hb)
        have HB1 := Lib.hid (HB1.out.trans (hb.mono HB1.out.size))
        clear hb
        go_wp2_with fail
        refine (lives_any _).mono ?_
        rintro e x11 ⟨rfl, hb⟩
        have HB1 := Lib.hid (HB1.out.trans (hb.mono HB1.out.size))
        clear hb
        go_wp2_with fail
        go_ret
        exact ⟨rfl, HB1.out⟩
end Go.Proofs.Ytdhefefhipdlcaa
