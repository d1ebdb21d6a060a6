/- joustref27.Script: walked. -/
import Derived.Test.YtdhefefhipdlcaaMxScript
namespace Go.Proofs.Ytdhefefhipdlcaa
open Go.RowKit Go.Lib

theorem rorder_any2 (seed : Nat) (m : Int) : ∃ er : Int, ∀ w, Calls Try.prog 18 #[.int .u64 (seed : Int), .int .i64 m] w fun e w' => ∃ p n c, e = .returned (.tuple #[.slice p n c, .int .i64 er]) ∧ Below w.heap.size w w' := by
  by_cases h : badN m
  · exact ⟨2, fun w => (rorder_err seed m h w).mono fun e w' ⟨he, hw⟩ => ⟨_, _, _, he, by rw [hw]; exact Below.refl _ _⟩⟩
  · unfold badN at h
    obtain ⟨n, rfl⟩ : ∃ n : Nat, m = (n : Int) := ⟨m.toNat, by omega⟩
    exact ⟨0, fun w => (rorder_go seed n (by omega) w).mono fun e w' ⟨p, c, he, hi, hb⟩ => ⟨_, _, _, he, hb⟩⟩
theorem box_cells {w V : World} {n0 n1 : Int} (hb : Below (w.alloc (.cells #[.int .i64 n0, .int .i64 n1] 37)).heap.size (w.alloc (.cells #[.int .i64 n0, .int .i64 n1] 37)) V) : V.cell? ⟨w.heap.size, 1, none⟩ = some (.int .i64 n1) := by
  rw [cell_blk ((hb.block _ (by simp)).trans (heap_alloc_new _ _))]; rfl

set_option maxHeartbeats 8000000 in
set_option maxRecDepth 100000 in
theorem rscript_bad0 (seed : Nat) (n0 n1 : Int) (h0 : badN n0) (w : World) :
    Calls Try.prog 25 #[.int .u64 (seed : Int), twoI n0 n1] w fun e w' => e = .returned (.tuple #[.slice none 0 0, .int .i64 2]) ∧ Below w.heap.size w w' := by
  have HO := Lib.hid (fun w => rorder_err seed n0 h0 w)
  obtain ⟨er, h1⟩ := rorder_any2 (mixN seed) n1
  have HP := Lib.hid h1
  have HB := Lib.hid ((Below.refl w.heap.size w).alloc (Nat.le_refl _) (.cells #[.int .i64 n0, .int .i64 n1] 37))
  clear h0 h1
  go_enter Try.func25, Try.ntmps25
  go_wp2_with fail
  with_reducible refine (HO.out _).mono ?_
  rintro e w' ⟨rfl, rfl⟩
  go_wp2_with fail
  go_region_with (first | (go_at_call 14; with_reducible refine (rmix_any _ _).mono ?_; rintro e w' ⟨rfl, rfl⟩) | (go_at_call 18; refine (HP.out _).mono ?_; rintro e w1 ⟨p, n, c, rfl, hb⟩))
  all_goals go_wp2
  all_goals go_ret2
  all_goals exact ⟨rfl, HB.out.drew.trans (hb.mono HB.out.drew.size)⟩

set_option maxHeartbeats 8000000 in
set_option maxRecDepth 100000 in
theorem rscript_bad1 (seed k0 : Nat) (n1 : Int) (b0 : k0 ≤ 1000) (h1 : badN n1) (w : World) :
    Calls Try.prog 25 #[.int .u64 (seed : Int), twoI (k0 : Int) n1] w fun e w' => e = .returned (.tuple #[.slice none 0 0, .int .i64 2]) ∧ Below w.heap.size w w' := by
  have HO := Lib.hid (fun w => rorder_go seed k0 b0 w)
  have HP := Lib.hid (fun w => rorder_err (mixN seed) n1 h1 w)
  have HB := Lib.hid ((Below.refl w.heap.size w).alloc (Nat.le_refl _) (.cells #[.int .i64 (k0 : Int), .int .i64 n1] 37))
  clear h1
  go_enter Try.func25, Try.ntmps25
  go_wp2_with fail
  with_reducible refine (HO.out _).mono ?_
  rintro e a0 ⟨p0, c0, rfl, -, hb0⟩
  have z1 := box_cells hb0
  have HB0 := Lib.hid (HB.out.trans (hb0.mono HB.out.size))
  clear hb0
  go_wp2_with fail
  go_region_with (first | (go_at_call 14; with_reducible refine (rmix_any _ _).mono ?_; rintro e w' ⟨rfl, rfl⟩) | (go_at_call 18; refine (HP.out _).mono ?_; rintro e w1 ⟨rfl, hw⟩))
  all_goals go_wp2
  all_goals go_ret2
  all_goals exact ⟨rfl, HB0.out.drew⟩

set_option maxHeartbeats 8000000 in
set_option maxRecDepth 100000 in
theorem rscript_ok (seed k0 k1 : Nat) (b0 : k0 ≤ 1000) (b1 : k1 ≤ 1000) (w : World) :
    Calls Try.prog 25 #[.int .u64 (seed : Int), twoI (k0 : Int) (k1 : Int)] w fun e w' => ∃ v, e = .returned (.tuple #[v, .int .i64 0]) ∧ IL w' w.heap.size v (lotL seed k0 ++ lotL (mixN seed) k1) ∧ Below w.heap.size w w' := by
  have HO := Lib.hid (fun w => rorder_go seed k0 b0 w)
  have HP := Lib.hid (fun w => rorder_go (mixN seed) k1 b1 w)
  have HL0 := Lib.hid (fun p c w h => rlots_go seed k0 b0 p c w h)
  have HL1 := Lib.hid (fun p c w h => rlots_go (mixN seed) k1 b1 p c w h)
  have HB := Lib.hid ((Below.refl w.heap.size w).alloc (Nat.le_refl _) (.cells #[.int .i64 (k0 : Int), .int .i64 (k1 : Int)] 37))
  go_enter Try.func25, Try.ntmps25
  go_wp2_with fail
  with_reducible refine (HO.out _).mono ?_
  rintro e a0 ⟨p0, c0, rfl, i0, hb0⟩
  have z1 := box_cells hb0
  have HB0 := Lib.hid (HB.out.trans (hb0.mono HB.out.size))
  have I0 := Lib.hid i0
  clear hb0 i0
  go_wp2_with fail
  go_cut [8, 9] from 22 to 28 (fun s8 s9 wx => ∃ p c, s8 = .slice p k1 c ∧ s9 = .int .i64 0 ∧ IntsAt wx p (orderL (mixN seed) k1) ∧ Below a0.heap.size a0 wx)
  case first =>
    as_aux_lemma =>
      go_region_with (first | (go_at_call 14; with_reducible refine (rmix_any _ _).mono ?_; rintro e w' ⟨rfl, rfl⟩) | (go_at_call 18; refine (HP.out _).mono ?_; rintro e w1 ⟨p1, c1, rfl, i1, hb1⟩))
      all_goals go_wp2_with fail
      all_goals go_meet
      all_goals exact ⟨_, _, rfl, rfl, i1, (Below.refl _ a0).drew.trans hb1⟩
  case rest =>
  obtain ⟨p1, c1, rfl, rfl, i1, hb2⟩ := hcut
  rename World => w1
  have I0 := Lib.hid (I0.out.below hb2)
  have I1 := Lib.hid i1
  have HB1 := Lib.hid (HB0.out.trans (hb2.mono HB0.out.size))
  clear z1 hb2 i1 HB0
  go_wp2_with fail
  with_reducible refine (HL0.out _ _ _ I0.out).mono ?_
  rintro e w2 ⟨x0, rfl, ix0, hb2⟩
  have I1 := Lib.hid (I1.out.below hb2)
  have HB2 := Lib.hid (HB1.out.trans (hb2.mono HB1.out.size))
  have IX0 := Lib.hid (ix0.weak HB1.out.size)
  clear hb2 ix0 HB1
  go_wp2_with fail
  with_reducible refine (HL1.out _ _ _ I1.out).mono ?_
  rintro e w3 ⟨x1, rfl, ix1, hb3⟩
  obtain ⟨q1, d1, rfl, ii1, iz1⟩ := ix1.ints0
  have HB3 := Lib.hid (HB2.out.trans (hb3.mono HB2.out.size))
  have IX0 := Lib.hid (IX0.out.below hb3)
  have l0 := lotL_length seed k0
  have l1 := lotL_length (mixN seed) k1
  obtain ⟨y, w4, ra, ia, ga⟩ := app_ints w3 32 w.heap.size x0 (lotL seed k0) (lotL (mixN seed) k1) q1 d1 IX0.out HB3.out.size ii1 iz1 (by rw [l0, l1]; omega)
  have IA := Lib.hid ia
  have HB4 := Lib.hid (HB3.out.grown ga HB3.out.size IX0.out.block)
  rw [l1] at ra ⊢
  clear hb3 ix1 ii1 iz1 ia ga HB2 l0 l1
  go_wp2_with (at_builtin; refine wpList_append_ran rfl _ _ 32 rfl rfl rfl ra ?_)
  go_ret2
  exact ⟨_, rfl, IA.out, HB4.out⟩
end Go.Proofs.Ytdhefefhipdlcaa
