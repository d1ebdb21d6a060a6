/- board: pieceMay, zoneMay say yes of a piece that may be. -/
import Derived.Test.YtppgfkdkopfebaaTbPlaces
import Derived.Test.YtppgfkdkopfebaaTbOne
namespace Go.Proofs.Ytppgfkdkopfebaa
open Go.RowKit Go.Lib

set_option maxHeartbeats 2000000 in
theorem bpiece_yes (xs : List Cd) (p : Pc) (n : Nat) (w : World) (h : OneP xs p) (hn : n = xs.length) : Calls Try.prog 46 #[.agg (pcV p).toArray, .int .i64 n] w fun e w' => e = .returned (.bool true) ∧ Below w.heap.size w w' := by
  have d1 : p.df ≥ -1 := h.df.1
  have d2 : p.df < (n : Int) := by have := h.df.2; omega
  have o1 : (p.ow : Int) ≤ 1 := by have := h.ow; omega
  have o2 : (p.hs : Int) ≤ 1 := by have := h.hs; omega
  have o3 : (p.zn : Int) ≤ 7 := by have := h.zn; omega
  have A := Lib.hid fun W => bnumber_yes p.ak h.ak W
  have G := Lib.hid fun W => bnumber_yes p.gd h.gd W
  clear h hn
  simp only [pcV]
  go_enter Try.func46, Try.ntmps46
  go_wp2_with fail
  refine (A.out _).mono ?_
  rintro e w1 ⟨rfl, rfl⟩
  go_wp2_with fail
  refine (G.out _).mono ?_
  rintro e w1 ⟨rfl, rfl⟩
  go_wp2_with fail
  go_ret
  exact ⟨rfl, (Below.refl _ _).alloc (Nat.le_refl _) _⟩

set_option maxHeartbeats 4000000 in
theorem bzone_yes (xs : List Cd) (p : Pc) (K : Nat) (w : World) (h : OneP xs p) (hK : K = kindI xs p.df) : Calls Try.prog 47 #[.agg (pcV p).toArray, .int .u8 K] w fun e w' => e = .returned (.bool true) ∧ Below w.heap.size w w' := by
  have h1 := h.sh
  have h2 := h.unit
  have h3 := h.back
  have h4 := h.tok
  have h5 := h.not
  have h6 := h.zn
  rw [← hK] at h2 h3
  clear h hK
  simp only [pcV]
  generalize p.zn = z at *
  by_cases hd : p.df = -1
  · have d1 : (p.df == -1) = true := by simp [hd]
    rcases h4 hd with rfl | rfl
    · clear h1 h2 h3 h4 h5 hd
      go_enter Try.func47, Try.ntmps47
      go_wp2_with fail
      go_ret
      exact ⟨rfl, (Below.refl _ _).alloc (Nat.le_refl _) _⟩
    · have e1 : ((p.hs : Int) == (p.ow : Int)) = true := by
        rcases h1 with h1 | h1
        · simp [h1]
        · simp [sharedB] at h1
      clear h1 h2 h3 h4 h5 hd
      go_enter Try.func47, Try.ntmps47
      go_wp2_with fail
      go_ret
      exact ⟨rfl, (Below.refl _ _).alloc (Nat.le_refl _) _⟩
  · have d1 : (p.df == -1) = false := by simp [hd]
    have h7 := h5 hd
    have hfit : fitsB K z = true := by
      unfold fitsB
      by_cases ha : z = 2 ∨ z = 6
      · rw [if_pos ha, h2 ha]; rfl
      · rw [if_neg ha]
        by_cases hb : z = 3
        · rw [if_pos hb]; simpa using h3 hb
        · rw [if_neg hb]
    have n7 : ((z : Int) != 7) = true := by simp; omega
    have hF := Lib.hid fun W => bfits_any K z h6 W
    have hP := Lib.hid fun W => bpile_any z h6 W
    rw [hfit] at hF
    by_cases hs : p.hs = p.ow
    · have e1 : ((p.hs : Int) == (p.ow : Int)) = true := by simp [hs]
      clear h1 h2 h3 h4 h5 hd hs hfit hP
      go_enter Try.func47, Try.ntmps47
      go_wp2_with fail
      refine (hF.out _).mono ?_
      rintro e w1 ⟨rfl, rfl⟩
      go_wp2_with fail
      go_ret
      exact ⟨rfl, (Below.refl _ _).alloc (Nat.le_refl _) _⟩
    · have e1 : ((p.hs : Int) == (p.ow : Int)) = false := by simp; omega
      have hpl : pileB z = false := by
        rcases h1 with h1 | h1
        · exact absurd h1.symm hs
        · rcases eight h6 with rfl | rfl | rfl | rfl | rfl | rfl | rfl | rfl <;> first | rfl | (simp [sharedB] at h1)
      rw [hpl] at hP
      clear h1 h2 h3 h4 h5 hd hs hfit hpl
      go_enter Try.func47, Try.ntmps47
      go_wp2_with fail
      refine (hF.out _).mono ?_
      rintro e w1 ⟨rfl, rfl⟩
      go_wp2_with fail
      refine (hP.out _).mono ?_
      rintro e w1 ⟨rfl, rfl⟩
      go_wp2_with fail
      go_ret
      exact ⟨rfl, (Below.refl _ _).alloc (Nat.le_refl _) _⟩
end Go.Proofs.Ytppgfkdkopfebaa
