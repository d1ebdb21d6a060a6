import Derived.Test.YtlbbabojejimpaaQTbC
/- board: pieceMay, zoneMay: yes just of a piece that may be. -/
namespace Go.Proofs.Ytlbbabojejimpaa
open Go.RowKit Go.Lib

set_option maxHeartbeats 1000000 in
theorem bnumber_no (n : Int) (h : ¬ (0 ≤ n ∧ n ≤ 99999)) (w : World) : Calls Try.prog 29 #[.int .i64 n] w fun e w' => e = .returned (.bool false) ∧ w = w' := by
  by_cases h1 : n ≥ 0
  · have h2 : ¬ n ≤ 99999 := by omega
    clear h
    go_enter Try.func29, Try.ntmps29
    go_wp2
    go_ret
    exact ⟨rfl, rfl⟩
  · clear h
    go_enter Try.func29, Try.ntmps29
    go_wp2
    go_ret
    exact ⟨rfl, rfl⟩

/-- What pieceMay asks. -/
structure PieceQ (n : Nat) (p : Pc) : Prop where
  df : -1 ≤ p.df ∧ p.df < n
  ow : p.ow ≤ 1
  hs : p.hs ≤ 1
  zn : p.zn ≤ 7
  ak : 0 ≤ p.ak ∧ p.ak ≤ 99999
  gd : 0 ≤ p.gd ∧ p.gd ≤ 99999
set_option maxHeartbeats 4000000 in
theorem bpiece_no (p : Pc) (n : Nat) (w : World) (h : ¬ PieceQ n p) : Calls Try.prog 19 #[.agg (pcV p).toArray, .int .i64 n] w fun e w' => e = .returned (.bool false) ∧ Below w.heap.size w w' := by
  have H : Hid (¬ (-1 ≤ p.df ∧ p.df < n) ∨ ¬ (0 ≤ p.ak ∧ p.ak ≤ 99999) ∨ ¬ (0 ≤ p.gd ∧ p.gd ≤ 99999) ∨ ¬ (p.ow ≤ 1 ∧ p.hs ≤ 1 ∧ p.zn ≤ 7)) := Lib.hid (by
    apply Decidable.byContradiction
    intro hc
    exact h ⟨by omega, by omega, by omega, by omega, by omega, by omega⟩)
  clear h
  simp only [pcV]
  by_cases d1 : p.df ≥ -1
  rotate_left
  · clear H
    go_enter Try.func19, Try.ntmps19
    go_wp2_with fail
    go_ret
    exact ⟨rfl, (Below.refl _ _).alloc (Nat.le_refl _) _⟩
  by_cases d2 : p.df < (n : Int)
  rotate_left
  · clear H
    go_enter Try.func19, Try.ntmps19
    go_wp2_with fail
    go_ret
    exact ⟨rfl, (Below.refl _ _).alloc (Nat.le_refl _) _⟩
  by_cases ha : 0 ≤ p.ak ∧ p.ak ≤ 99999
  rotate_left
  · clear H
    have A := Lib.hid fun W => bnumber_no p.ak ha W
    clear ha
    go_enter Try.func19, Try.ntmps19
    go_wp2_with fail
    refine (A.out _).mono ?_
    rintro e w1 ⟨rfl, rfl⟩
    go_wp2_with fail
    go_ret
    exact ⟨rfl, (Below.refl _ _).alloc (Nat.le_refl _) _⟩
  have A := Lib.hid fun W => bnumber_yes p.ak ha W
  by_cases hg : 0 ≤ p.gd ∧ p.gd ≤ 99999
  rotate_left
  · clear H
    have G := Lib.hid fun W => bnumber_no p.gd hg W
    clear ha hg
    go_enter Try.func19, Try.ntmps19
    go_wp2_with fail
    refine (A.out _).mono ?_
    rintro e w1 ⟨rfl, rfl⟩
    go_wp2_with fail
    refine (G.out _).mono ?_
    rintro e w1 ⟨rfl, rfl⟩
    go_wp2_with fail
    go_ret
    exact ⟨rfl, (Below.refl _ _).alloc (Nat.le_refl _) _⟩
  have G := Lib.hid fun W => bnumber_yes p.gd hg W
  have H2 : Hid (¬ (p.ow ≤ 1 ∧ p.hs ≤ 1 ∧ p.zn ≤ 7)) := Lib.hid (by have := H.out; omega)
  clear H ha hg
  go_enter Try.func19, Try.ntmps19
  go_wp2_with fail
  refine (A.out _).mono ?_
  rintro e w1 ⟨rfl, rfl⟩
  go_wp2_with fail
  refine (G.out _).mono ?_
  rintro e w1 ⟨rfl, rfl⟩
  go_wp2_with fail
  all_goals go_ret
  all_goals (have h2 := H2.out)
  all_goals first
    | exact ⟨rfl, (Below.refl _ _).alloc (Nat.le_refl _) _⟩
    | exact ⟨ret_bool (by simp; omega), (Below.refl _ _).alloc (Nat.le_refl _) _⟩

/-- What zoneMay asks. -/
structure ZoneQ (K : Nat) (p : Pc) : Prop where
  sh : p.ow = p.hs ∨ sharedB p.zn = true
  unit : p.zn = 2 ∨ p.zn = 6 → K = 0
  back : p.zn = 3 → K ≠ 0
  tok : p.df = -1 → p.zn = 2 ∨ p.zn = 7
  not : p.df ≠ -1 → p.zn ≠ 7
set_option maxHeartbeats 8000000 in
theorem bzone_no (p : Pc) (K : Nat) (w : World) (hz : p.zn ≤ 7) (hK : p.df = -1 → K = 0) (h : ¬ ZoneQ K p) : Calls Try.prog 20 #[.agg (pcV p).toArray, .int .u8 K] w fun e w' => e = .returned (.bool false) ∧ Below w.heap.size w w' := by
  have H : (p.ow = p.hs ∨ sharedB p.zn = true) → (p.zn = 2 ∨ p.zn = 6 → K = 0) → (p.zn = 3 → K ≠ 0) → (p.df = -1 → p.zn = 2 ∨ p.zn = 7) → (p.df ≠ -1 → p.zn ≠ 7) → False := fun a b c d e => h ⟨a, b, c, d, e⟩
  clear h
  simp only [pcV]
  generalize p.zn = z at *
  by_cases hd : p.df = -1
  · have d1 : (p.df == -1) = true := by simp [hd]
    have hk0 := hK hd
    by_cases hs : p.hs = p.ow
    · have e1 : ((p.hs : Int) == (p.ow : Int)) = true := by simp [hs]
      rcases eight hz with rfl | rfl | rfl | rfl | rfl | rfl | rfl | rfl
      all_goals first
        | (exfalso; exact H (.inl hs.symm) (by omega) (by omega) (by omega) (by omega))
        | skip
      all_goals
        clear H hd hs hk0 hK
        go_enter Try.func20, Try.ntmps20
        go_wp2_with fail
        go_ret
        exact ⟨rfl, (Below.refl _ _).alloc (Nat.le_refl _) _⟩
    · have e1 : ((p.hs : Int) == (p.ow : Int)) = false := by simp; omega
      rcases eight hz with rfl | rfl | rfl | rfl | rfl | rfl | rfl | rfl
      all_goals first
        | (exfalso; exact H (.inr rfl) (by omega) (by omega) (by omega) (by omega))
        | skip
      all_goals
        clear H hd hs hk0 hK
        go_enter Try.func20, Try.ntmps20
        go_wp2_with fail
        go_ret
        exact ⟨rfl, (Below.refl _ _).alloc (Nat.le_refl _) _⟩
  · have d1 : (p.df == -1) = false := by simp [hd]
    by_cases h7 : z = 7
    · subst h7
      clear H hd hK
      go_enter Try.func20, Try.ntmps20
      go_wp2_with fail
      go_ret
      exact ⟨rfl, (Below.refl _ _).alloc (Nat.le_refl _) _⟩
    have n7 : ((z : Int) != 7) = true := by simp; omega
    have hF := Lib.hid fun W => bfits_any K z hz W
    have hP := Lib.hid fun W => bpile_any z hz W
    cases hfit : fitsB K z with
    | false =>
      rw [hfit] at hF
      clear H hd hK hfit hP h7
      go_enter Try.func20, Try.ntmps20
      go_wp2_with fail
      refine (hF.out _).mono ?_
      rintro e w1 ⟨rfl, rfl⟩
      go_wp2_with fail
      go_ret
      exact ⟨rfl, (Below.refl _ _).alloc (Nat.le_refl _) _⟩
    | true =>
      rw [hfit] at hF
      have hu : z = 2 ∨ z = 6 → K = 0 := fun ha => by
        unfold fitsB at hfit
        rw [if_pos ha] at hfit
        simpa using hfit
      have hb : z = 3 → K ≠ 0 := fun ha => by
        unfold fitsB at hfit
        rw [if_neg (by omega), if_pos ha] at hfit
        simpa using hfit
      have hs : p.hs ≠ p.ow := fun hs => H (.inl hs.symm) hu hb (fun h => absurd h hd) (fun _ => h7)
      have hpl : pileB z = true := by
        have : ¬ sharedB z = true := fun hs => H (.inr hs) hu hb (fun h => absurd h hd) (fun _ => h7)
        rcases eight hz with rfl | rfl | rfl | rfl | rfl | rfl | rfl | rfl <;> first | rfl | (exact absurd rfl this) | omega
      have e1 : ((p.hs : Int) == (p.ow : Int)) = false := by simp; omega
      rw [hpl] at hP
      clear H hd hK hfit h7 hu hb hs hpl
      go_enter Try.func20, Try.ntmps20
      go_wp2_with fail
      refine (hF.out _).mono ?_
      rintro e w1 ⟨rfl, rfl⟩
      go_wp2_with fail
      refine (hP.out _).mono ?_
      rintro e w1 ⟨rfl, rfl⟩
      go_wp2_with fail
      go_ret
      exact ⟨rfl, (Below.refl _ _).alloc (Nat.le_refl _) _⟩
end Go.Proofs.Ytlbbabojejimpaa
