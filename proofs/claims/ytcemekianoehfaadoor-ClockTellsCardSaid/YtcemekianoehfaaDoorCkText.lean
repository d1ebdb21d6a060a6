/- clock.minutes, mark: walked. (Made by gen/mkck.py.) -/
import Derived.Test.YtcemekianoehfaaDoorCkDigits
import Derived.Test.YtcemekianoehfaaDoorCkLook
import Derived.Test.YtcemekianoehfaaDoorShelf
namespace Go.Proofs.YtcemekianoehfaaDoor
open Go.RowKit Go.Lib Go.Sort


theorem var?_below {P : Program} {B g : Nat} {W W' : World} {n : String} {cs : Array Value} (h : Below B W W') (hg : P.globalNamed n = some g) (hgB : g < B) (hv : W.var? P n = some cs) : W'.var? P n = some cs := by
  unfold World.var? at hv ⊢
  simp only [hg, Option.bind_some] at hv ⊢
  rw [h.block g hgB]
  exact hv
theorem g_pow : Tryd.prog.globalNamed "internal/strconv.uint64pow10" = some 0 := by kernel_rfl
structure PTab (w : World) : Prop where
  tab : Lib.TabIs Tryd.prog w "internal/strconv.uint64pow10" .u64 Lib.pow10Tab
  size : 0 < w.heap.size
theorem PTab.below {w w' : World} (h : PTab w) (hb : Below w.heap.size w w') : PTab w' := ⟨var?_below hb g_pow h.size h.tab, Nat.lt_of_lt_of_le h.size hb.size⟩

/-- What is left, as minutes:seconds. -/
def minS (t : Nat) : ByteArray := decS (t / 60) ++ ⟨#[58]⟩ ++ (decS (100 + t % 60)).extract 1 (decS (100 + t % 60)).size
def mkS (f who : Nat) (on : Bool) (h : Nat) : ByteArray := if f = who then ⟨#[32, 102, 101, 108, 108]⟩ else if on = true ∧ h = who then ⟨#[42]⟩ else ⟨#[]⟩
theorem min_size {t : Nat} (h : t ≤ 1073741824) : (minS t).size ≤ 43 := by
  unfold minS
  have h1 := dec_size (n := t / 60) (by omega)
  have h2 := dec_size (n := 100 + t % 60) (by omega)
  rw [ByteArray.size_append, ByteArray.size_append, ByteArray.size_extract]
  have : (⟨#[58]⟩ : ByteArray).size = 1 := rfl
  omega
theorem mk_size (f who : Nat) (on : Bool) (h : Nat) : (mkS f who on h).size ≤ 5 := by
  unfold mkS
  split
  · decide
  · split <;> decide
theorem dec_three {i : Nat} (h : i < 60) : (decS (100 + i)).size = 3 := by
  have : ∀ i : Fin 60, (decS (100 + i.1)).size = 3 := by decide +kernel
  exact this ⟨i, h⟩
theorem itoa_any (n : Nat) (hn : n ≤ 1073741824) (w : World) (hT : PTab w) : Calls Tryd.prog 32 #[.int .i64 (n : Int)] w fun e w' => e = .returned (.string (decS n)) ∧ Below w.heap.size w w' := by
  refine (Tryd.strconv_Itoa (n : Int) (by omega) (by omega) w hT.tab).mono ?_
  rintro e w' ⟨rfl, k, os, rfl⟩
  refine ⟨?_, ?_⟩
  · unfold decS; rw [itoa_nonneg]
  · have : Below w.heap.size w (w.drewN k) := below_dr (Below.refl _ _) k
    refine this.trans ?_
    exact ⟨rfl, rfl, rfl, by simp [grow], fun j hj => by simp [grow, Array.getElem?_append]; omega⟩
set_option maxHeartbeats 4000000 in
set_option maxRecDepth 100000 in
theorem two_any (n : Nat) (hn : n < 60) (w : World) (hT : PTab w) : Calls Tryd.prog 33 #[.int .i64 (n : Int)] w fun e w' => e = .returned (.string ((decS (100 + n)).extract 1 (decS (100 + n)).size)) ∧ Below w.heap.size w w' := by
  have hc := fun (W : World) (h : PTab W) => itoa_any (100 + n) (by omega) W h
  rw [show ((100 + n : Nat) : Int) = 100 + (n : Int) by omega] at hc
  have HC := Lib.hid hc
  have hs := dec_three hn
  have HS := Lib.hid hs
  clear hc
  go_enter Tryd.func33, Tryd.ntmps33
  go_wp2_with (go_at_call 32; refine (HC.out _ hT).mono ?_; rintro e w1 ⟨rfl, hb⟩; have HB := Lib.hid hb; clear hb)
  go_ret
  exact ⟨by first | rfl | (rw [HS.out]; rfl), HB.out⟩

set_option maxHeartbeats 4000000 in
set_option maxRecDepth 100000 in
theorem minutes_any (t : Nat) (ht : t ≤ 1073741824) (w : World) (hT : PTab w) : Calls Tryd.prog 22 #[.int .i64 (t : Int)] w fun e w' => e = .returned (.string (minS t)) ∧ Below w.heap.size w w' := by
  have hc := fun (W : World) (h : PTab W) => itoa_any (t / 60) (by omega) W h
  have hd := fun (W : World) (h : PTab W) => two_any (t % 60) (by omega) W h
  rw [show ((t / 60 : Nat) : Int) = (t : Int) / 60 by omega] at hc
  rw [show ((t % 60 : Nat) : Int) = (t : Int) % 60 by omega] at hd
  have HC := Lib.hid hc
  have HD := Lib.hid hd
  have h1 := dec_size (n := t / 60) (by omega)
  have h2 : ((decS (100 + t % 60)).extract 1 (decS (100 + t % 60)).size).size ≤ 21 := by
    have := dec_size (n := 100 + t % 60) (by omega)
    rw [ByteArray.size_extract]; omega
  have HM := Lib.hid (show minS t = decS (t / 60) ++ ⟨#[58]⟩ ++ (decS (100 + t % 60)).extract 1 (decS (100 + t % 60)).size from rfl)
  generalize (decS (100 + t % 60)).extract 1 (decS (100 + t % 60)).size = E at *
  generalize decS (t / 60) = D at *
  clear hc hd
  go_enter Tryd.func22, Tryd.ntmps22
  go_wp2_with (first | (go_at_call 32; refine (HC.out _ hT).mono ?_; rintro e w1 ⟨rfl, hb⟩; have HB1 := Lib.hid hb; have HT1 := Lib.hid (hT.below hb); clear hb) | (go_at_call 33; refine (HD.out _ HT1.out).mono ?_; rintro e w2 ⟨rfl, hb⟩; have HB2 := Lib.hid hb; clear hb))
  go_ret
  exact ⟨by rw [HM.out]; rfl, HB1.out.trans (HB2.out.mono HB1.out.size)⟩

set_option maxHeartbeats 4000000 in
set_option maxRecDepth 100000 in
theorem mark_0 (a b m k : Int) (h : Nat) (on : Bool) (s : Int) (f : Nat) (w : World) : Calls Tryd.prog 23 #[ckV a b m k h on s f, .int .u8 0] w fun e w' => e = .returned (.string (mkS f 0 on h)) ∧ Below w.heap.size w w' := by
  have HM := Lib.hid (show mkS f 0 on h = if f = 0 then ⟨#[32, 102, 101, 108, 108]⟩ else if on = true ∧ h = 0 then ⟨#[42]⟩ else ⟨#[]⟩ from rfl)
  by_cases h1 : f = 0
  · subst h1
    go_enter Tryd.func23, Tryd.ntmps23
    go_wp2
    go_ret
    exact ⟨by rw [HM.out]; rfl, box_below _ _⟩
  · have q1 : ((f : Int) == 0) = false := by simp; omega
    rw [if_neg h1] at HM
    cases on
    · rw [if_neg (by simp)] at HM
      go_enter Tryd.func23, Tryd.ntmps23
      go_wp2
      go_ret
      exact ⟨by rw [HM.out]; rfl, box_below _ _⟩
    · by_cases h2 : h = 0
      · subst h2
        rw [if_pos ⟨rfl, rfl⟩] at HM
        go_enter Tryd.func23, Tryd.ntmps23
        go_wp2
        go_ret
        exact ⟨by rw [HM.out]; rfl, box_below _ _⟩
      · have q2 : ((h : Int) == 0) = false := by simp; omega
        rw [if_neg (fun h => h2 h.2)] at HM
        go_enter Tryd.func23, Tryd.ntmps23
        go_wp2
        go_ret
        exact ⟨by rw [HM.out]; rfl, box_below _ _⟩

set_option maxHeartbeats 4000000 in
set_option maxRecDepth 100000 in
theorem mark_1 (a b m k : Int) (h : Nat) (on : Bool) (s : Int) (f : Nat) (w : World) : Calls Tryd.prog 23 #[ckV a b m k h on s f, .int .u8 1] w fun e w' => e = .returned (.string (mkS f 1 on h)) ∧ Below w.heap.size w w' := by
  have HM := Lib.hid (show mkS f 1 on h = if f = 1 then ⟨#[32, 102, 101, 108, 108]⟩ else if on = true ∧ h = 1 then ⟨#[42]⟩ else ⟨#[]⟩ from rfl)
  by_cases h1 : f = 1
  · subst h1
    go_enter Tryd.func23, Tryd.ntmps23
    go_wp2
    go_ret
    exact ⟨by rw [HM.out]; rfl, box_below _ _⟩
  · have q1 : ((f : Int) == 1) = false := by simp; omega
    rw [if_neg h1] at HM
    cases on
    · rw [if_neg (by simp)] at HM
      go_enter Tryd.func23, Tryd.ntmps23
      go_wp2
      go_ret
      exact ⟨by rw [HM.out]; rfl, box_below _ _⟩
    · by_cases h2 : h = 1
      · subst h2
        rw [if_pos ⟨rfl, rfl⟩] at HM
        go_enter Tryd.func23, Tryd.ntmps23
        go_wp2
        go_ret
        exact ⟨by rw [HM.out]; rfl, box_below _ _⟩
      · have q2 : ((h : Int) == 1) = false := by simp; omega
        rw [if_neg (fun h => h2 h.2)] at HM
        go_enter Tryd.func23, Tryd.ntmps23
        go_wp2
        go_ret
        exact ⟨by rw [HM.out]; rfl, box_below _ _⟩

end Go.Proofs.YtcemekianoehfaaDoor
