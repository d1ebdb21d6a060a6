/- mix.upTo, Order and the document's Order: walked. -/
import Derived.Test.YtdhefefhipdlcaaMxInts
import Derived.Test.YtdhefefhipdlcaaMxBelow
import Derived.Test.YtdhefefhipdlcaaMxLotsMath
import Derived.Maps.AppendAt
namespace Go.Proofs.Ytdhefefhipdlcaa
open Go.RowKit Go.Lib

/-- What has been laid of 0 to n - 1: noughts stand behind. -/
def partI (n k : Nat) : List Int := upI k ++ List.replicate (n - k) 0
theorem partI_length {n k : Nat} (h : k ≤ n) : (partI n k).length = n := by simp [partI, upI_length]; omega
theorem partI_set {n k : Nat} (h : k < n) : (partI n k).set k (k : Int) = partI n (k + 1) := by
  have e : List.replicate (n - k) (0 : Int) = 0 :: List.replicate (n - (k + 1)) 0 := by rw [← List.replicate_succ]; congr 1; omega
  unfold partI
  rw [e, List.set_append_right _ _ (by rw [upI_length]; exact Nat.le_refl _), upI_length, Nat.sub_self, List.set_cons_zero]
  simp [upI, List.range_succ]
theorem partI_all (n : Nat) : partI n n = upI n := by simp [partI]

set_option maxHeartbeats 4000000 in
set_option maxRecDepth 100000 in
theorem upTo_any (n : Nat) (hn : n ≤ 1000) (w : World) :
    Calls Try.prog 28 #[.int .i64 (n : Int)] w fun e w' => e = .returned (.slice (some ⟨w.heap.size, 0, none⟩) n n) ∧ IG w' w.heap.size n (upI n) ∧ Below w.heap.size w w' := by
  have hmk := make_ints n (by omega) w
  have hg0 := IG.made w n (by unfold maxLen; omega)
  obtain ⟨W1, hW1⟩ : ∃ W1, w.alloc (.cells (madeCells #[.int .i64 0] n) 3) = W1 := ⟨_, rfl⟩
  have hb1 : Below w.heap.size w W1 := by rw [← hW1]; exact (Below.refl _ _).alloc (Nat.le_refl _) _
  rw [hW1] at hmk hg0
  have HG := Lib.hid hg0
  have HB := Lib.hid hb1
  clear hg0 hb1 hW1
  go_enter Try.func28, Try.ntmps28
  go_wp2
  go_loopw [9] (fun vi wr => ∃ k : Nat, vi = .int .i64 k ∧ k ≤ n ∧ Below w.heap.size w wr ∧ IG wr w.heap.size n (partI n k)) (fun vi _ => n - (RowKit.intOf vi).toNat)
  case atStart => exact ⟨0, by rfl, Nat.zero_le _, HB.out, by simpa [partI, upI] using HG.out⟩
  case round =>
    obtain ⟨k, rfl, hk, hbw, hgw⟩ := hrel
    rename World => wA
    by_cases hlt : k < n
    · have hlen := partI_length hk
      obtain ⟨x, hx⟩ : ∃ x, (partI n k)[k]? = some x := ⟨_, List.getElem?_eq_getElem (by omega)⟩
      have c1 := hgw.cell hx
      have f1 := hgw.free k
      have i0 : (0 : Int) ≤ (k : Int) := by omega
      have i1 : (k : Int) < (n : Int) := by omega
      have hs := hgw.set k (k : Int)
      rw [partI_set hlt] at hs
      have HS := Lib.hid hs
      have HK := Lib.hid (hbw.setCell (p := ⟨w.heap.size, k, none⟩) (Nat.le_refl _) (iv (k : Int)))
      clear hs hgw hbw hx hlen
      go_wp2
      go_roundw
      case rel => exact ⟨k + 1, by go_num, by omega, HK.out, HS.out⟩
      case measure => simp [RowKit.intOf]; omega
    · obtain rfl : k = n := by omega
      rw [partI_all] at hgw
      have HS := Lib.hid hgw
      have HK := Lib.hid hbw
      clear hgw hbw
      go_wp2
      go_ret
      exact ⟨rfl, HS.out, HK.out⟩

set_option maxHeartbeats 4000000 in
set_option maxRecDepth 100000 in
theorem order_err (seed : Nat) (m : Int) (hm : m < 0 ∨ 1000 < m) (w : World) :
    Calls Try.prog 17 #[.int .u64 (seed : Int), .int .i64 m] w fun e w' => e = .returned (.tuple #[.slice none 0 0, .int .i64 2]) ∧ w' = w := by
  by_cases h : m < 0
  · go_enter Try.func17, Try.ntmps17
    go_wp2
    go_ret2
    exact ⟨rfl, rfl⟩
  · have h1 : 1000 < m := by omega
    have d1 : ¬ m < 0 := h
    go_enter Try.func17, Try.ntmps17
    go_wp2
    go_ret2
    exact ⟨rfl, rfl⟩
theorem conv_walk (i : Nat) (h : i < 1000) : IntKind.u64.wrap (i : Int) = (i : Int) ∧ IntKind.u64.wrap ((i : Int) + 1) = ((i + 1 : Nat) : Int) := by
  rw [IntKind.wrap_u64, IntKind.wrap_u64]; omega

set_option maxHeartbeats 8000000 in
set_option maxRecDepth 100000 in
theorem order_any (seed n : Nat) (hn : n ≤ 1000) (w : World) :
    Calls Try.prog 17 #[.int .u64 (seed : Int), .int .i64 (n : Int)] w fun e w' => e = .returned (.tuple #[.slice (some ⟨w.heap.size, 0, none⟩) n n, .int .i64 0]) ∧ IG w' w.heap.size n (orderL seed n) ∧ Below w.heap.size w w' := by
  have HU := Lib.hid (upTo_any n hn w)
  cases n with
  | zero =>
    have HE := Lib.hid (show orderL seed 0 = upI 0 from rfl)
    have i0 : ¬ ((0 : Nat) : Int) < 0 := by omega
    go_enter Try.func17, Try.ntmps17
    go_wp2_with (go_at_call 28; refine HU.out.mono ?_; rintro e w1 ⟨rfl, hg, hb⟩; have HG := Lib.hid hg; have HB := Lib.hid hb; clear hg hb)
    refine wp_loop_rounds 1 ?_
    rw [rounds_succ]
    go_wp2
    go_ret2
    exact ⟨rfl, by rw [HE.out]; exact HG.out, HB.out⟩
  | succ n =>
    have HL := Lib.hid (show orderL seed (n + 1) = ordGo seed n 0 (upI (n + 1)) from rfl)
    generalize orderL seed (n + 1) = R at *
    generalize hN : n + 1 = N at *
    have HNN := Lib.hid hN
    have hN1 : (N : Int) - 1 = (n : Int) := by omega
    go_enter Try.func17, Try.ntmps17
    go_wp2_with (go_at_call 28; refine HU.out.mono ?_; rintro e w1 ⟨rfl, hg, hb⟩; have HG := Lib.hid hg; have HB := Lib.hid hb; clear hg hb)
    go_loopw [7, 8] (fun va vi wr => ∃ (at_ i : Nat) (l : List Int), va = .int .u64 (at_ : Int) ∧ vi = .int .i64 (i : Int) ∧ i < N ∧ at_ < 18446744073709551616 ∧ l.length = N ∧ Below w.heap.size w wr ∧ IG wr w.heap.size N l ∧ Hid (R = ordGo seed i at_ l)) (fun _ vi _ => (RowKit.intOf vi).toNat)
    case atStart => exact ⟨0, n, upI N, by rfl, by first | rfl | go_num, by omega, by omega, upI_length N, HB.out, HG.out, HL.out⟩
    case round =>
      obtain ⟨at_, i, l, rfl, rfl, hi, hat, hl, hbw, hgw, hR⟩ := hrel
      rename World => wA
      cases i with
      | zero =>
        have HR := Lib.hid (show R = l from hR.out)
        have HS := Lib.hid hgw
        have HK := Lib.hid hbw
        clear hgw hbw hR
        go_wp2
        go_ret2
        exact ⟨rfl, by rw [HR.out]; exact HS.out, HK.out⟩
      | succ i =>
        have HBel := Lib.hid (below_any seed at_ (i + 2) (by omega) hat (by omega) wA)
        have hj := belowN_lt seed at_ (i + 2) (by omega)
        have hat' := nextN_lt seed at_ (i + 2)
        have HR := Lib.hid (show R = ordGo seed i (nextN seed at_ (i + 2)) (swapI l (i + 1) (belowN seed at_ (i + 2))) from hR.out)
        generalize belowN seed at_ (i + 2) = j at *
        generalize nextN seed at_ (i + 2) = at2 at *
        obtain ⟨e1, e2⟩ := conv_walk (i + 1) (by omega)
        obtain ⟨q, hq⟩ : ∃ q, q = i + 2 := ⟨_, rfl⟩
        obtain ⟨p, hp⟩ : ∃ p, p = i + 1 := ⟨_, rfl⟩
        rw [← hp] at e1 e2 hi HR ⊢
        rw [show p + 1 = q by omega] at e2
        rw [← hq] at HBel
        have e3 : (p : Int) - 1 = (i : Int) := by omega
        have p0 : (0 : Int) < (p : Int) := by omega
        have p1 : (0 : Int) ≤ (p : Int) := by omega
        have p2 : (p : Int) < (N : Int) := by omega
        have j1 : (0 : Int) ≤ (j : Int) := by omega
        have j2 : (j : Int) < (N : Int) := by omega
        have HQ := Lib.hid hq
        have HP := Lib.hid hp
        have HLL := Lib.hid hl
        have HGW := Lib.hid hgw
        have HBW := Lib.hid hbw
        have HJ := Lib.hid hj
        clear hq hp hl hgw hbw hj hR
        go_wp2_with fail
        refine HBel.out.mono ?_
        rintro e w2 ⟨rfl, hb2⟩
        have hg2 := HGW.out.below hb2
        have hb3 := HBW.out.trans (hb2.mono HBW.out.size)
        obtain ⟨x, hx⟩ : ∃ x, l[p]? = some x := ⟨_, List.getElem?_eq_getElem (by have := HLL.out; omega)⟩
        obtain ⟨y, hy⟩ : ∃ y, l[j]? = some y := ⟨_, List.getElem?_eq_getElem (by have := HLL.out; omega)⟩
        have c1 := hg2.cell hx
        have c2 := hg2.cell hy
        have f1 := hg2.free p
        have f2 := hg2.free j
        obtain ⟨z, hz⟩ : ∃ z, (l.set p y)[j]? = some z := ⟨_, List.getElem?_eq_getElem (by have := HLL.out; simp; omega)⟩
        have c3 := (hg2.set p y).cell hz
        have s1 := swapI_eq hx hy
        have HS := Lib.hid (show IG ((w2.setCell ⟨w.heap.size, p, none⟩ (iv y)).setCell ⟨w.heap.size, j, none⟩ (iv x)) w.heap.size N (swapI l p j) from by rw [s1]; exact (hg2.set p y).set j x)
        have HK := Lib.hid (show Below w.heap.size w ((w2.setCell ⟨w.heap.size, p, none⟩ (iv y)).setCell ⟨w.heap.size, j, none⟩ (iv x)) from (hb3.setCell (p := ⟨w.heap.size, p, none⟩) (Nat.le_refl _) _).setCell (p := ⟨w.heap.size, j, none⟩) (Nat.le_refl _) _)
        have HX := Lib.hid hx
        have HY := Lib.hid hy
        clear hg2 hb2 hb3 hx hy s1
        by_cases hpj : p = j
        · subst hpj
          obtain rfl : x = y := by have h1 := HX.out; rw [HY.out] at h1; cases h1; rfl
          clear c3
          as_aux_lemma =>
            go_wp2_with fail
            go_region
            go_wp2_with fail
            go_roundw
            case rel => exact ⟨at2, i, swapI l p p, by rfl, by first | rfl | go_num, by have := HP.out; omega, by omega, by rw [swapI_length]; exact HLL.out, HK.out.drew, HS.out.drew, HR⟩
            case measure => have := HP.out; simp [RowKit.intOf]; omega
        · clear c3
          as_aux_lemma =>
            go_wp2_with fail
            go_region
            go_wp2_with fail
            go_roundw
            case rel => exact ⟨at2, i, swapI l p j, by rfl, by first | rfl | go_num, by have := HP.out; omega, by omega, by rw [swapI_length]; exact HLL.out, HK.out.drew, HS.out.drew, HR⟩
            case measure => have := HP.out; simp [RowKit.intOf]; omega

theorem upI_snoc (k : Nat) : upI (k + 1) = upI k ++ [(k : Int)] := by simp [upI, List.range_succ]
theorem IL.snoc {w : World} {B : Nat} {v : Value} {xs : List Int} {x : Int} (h : w.ownsRow B 3 1 v (xs.length + 1) (xs.map iv ++ [iv x])) : IL w B v (xs ++ [x]) := by
  unfold IL
  simpa using h
theorem IL.block {w : World} {B : Nat} {v : Value} {xs : List Int} (h : IL w B v xs) : ∀ k, v.ownBlock = some k → B ≤ k := fun k hk => by
  rcases h.form with ⟨rfl, rfl⟩ | ⟨g, cap, rfl, hg, -⟩
  · cases hk
  · cases hk; exact hg

set_option maxHeartbeats 4000000 in
set_option maxRecDepth 100000 in
theorem rorder_err (seed : Nat) (m : Int) (hm : m < 0 ∨ 1000 < m) (w : World) :
    Calls Try.prog 18 #[.int .u64 (seed : Int), .int .i64 m] w fun e w' => e = .returned (.tuple #[.slice none 0 0, .int .i64 2]) ∧ w' = w := by
  by_cases h : m < 0
  · go_enter Try.func18, Try.ntmps18
    go_wp2
    go_ret2
    exact ⟨rfl, rfl⟩
  · have h1 : 1000 < m := by omega
    have d1 : ¬ m < 0 := h
    go_enter Try.func18, Try.ntmps18
    go_wp2
    go_ret2
    exact ⟨rfl, rfl⟩
theorem Try.info_int : (Try.prog.info? 3).map (fun i => (i.zero, i.size, i.bytes)) = some (some (.int .i64 0), 1, 8) := by kernel_rfl

set_option maxHeartbeats 8000000 in
set_option maxRecDepth 100000 in
theorem rorder_any (seed n : Nat) (hn : n ≤ 1000) (w : World) :
    Calls Try.prog 18 #[.int .u64 (seed : Int), .int .i64 (n : Int)] w fun e w' => ∃ v, e = .returned (.tuple #[v, .int .i64 0]) ∧ IL w' w.heap.size v (orderL seed n) ∧ Below w.heap.size w w' := by
  obtain ⟨i0, hi, hz0, hz1, hz2⟩ := info_parts Try.info_int
  cases n with
  | zero =>
    have HE := Lib.hid (show orderL seed 0 = [] from rfl)
    have d0 : ¬ ((0 : Nat) : Int) < 0 := by omega
    go_enter Try.func18, Try.ntmps18
    go_wp2
    refine wp_loop_rounds 1 ?_
    rw [rounds_succ]
    go_wp2
    refine wp_loop_rounds 1 ?_
    rw [rounds_succ]
    go_wp2
    go_ret2
    exact ⟨_, rfl, by rw [HE.out]; exact IL.nil _ _, Below.refl _ _⟩
  | succ n =>
    have HL := Lib.hid (show orderL seed (n + 1) = ordGo seed n 0 (upI (n + 1)) from rfl)
    generalize orderL seed (n + 1) = R at *
    generalize hN : n + 1 = N at *
    have HNN := Lib.hid hN
    have hN1 : (N : Int) - 1 = (n : Int) := by omega
    go_enter Try.func18, Try.ntmps18
    go_wp2
    go_loopw [6, 7] (fun v vi wr => ∃ (k : Nat), vi = .int .i64 (k : Int) ∧ k ≤ N ∧ Below w.heap.size w wr ∧ IL wr w.heap.size v (upI k)) (fun _ vi _ => N - (RowKit.intOf vi).toNat)
    case atStart => exact ⟨0, by rfl, Nat.zero_le _, Below.refl _ _, IL.nil _ _⟩
    case round =>
      obtain ⟨k, rfl, hk, hbw, hgw⟩ := hrel
      rename World => wA
      by_cases hlt : k < N
      · have i1 : (k : Int) < (N : Int) := by omega
        have hgw1 := hgw.below ((Below.refl _ wA).alloc (Nat.le_refl _) (.cells #[iv (k : Int)] 3))
        have HB := Lib.hid hbw
        have hsz := hbw.size
        have hlen := upI_length k
        unfold IL at hgw1
        rw [hlen] at hgw1
        clear hbw hgw
        go_wp2_with (at_builtin; refine wpList_append_own _ rfl _ _ 32 rfl w.heap.size 3 i0 (.int .i64 0) 1 8 Try.underlying32 hi hz0 hz1 hz2 rfl (by decide) _ _ _ rfl hgw1 ⟨wA.heap.size, 0, none⟩ 1 1 [iv (k : Int)] rfl rfl ?c2 ?c3 ?c4 ?c5 ?c6 ?_)
        case c2 => exact cell_one_new _ _ _
        case c3 => intro u hu; simp at hu; subst hu; rfl
        case c4 => unfold maxLen; omega
        case c5 => omega
        case c6 => simp; omega
        intro v' w9 hown' hgrow _
        have hs := upI_snoc k
        have hown2 : IL w9 w.heap.size v' (upI (k + 1)) := by
          rw [hs]
          refine IL.snoc ?_
          rw [hlen]; exact hown'
        have hb9 := (HB.out.alloc hsz (.cells #[iv (k : Int)] 3)).grown hgrow (by simp; omega) (IL.block (xs := upI k) (by unfold IL; rw [hlen]; exact hgw1))
        have HO := Lib.hid hown2
        have HB9 := Lib.hid hb9
        clear hown' hgrow hown2 hb9 hs
        go_wp2
        go_roundw
        case rel => exact ⟨k + 1, by go_num, by omega, HB9.out, HO.out⟩
        case measure => simp [RowKit.intOf]; omega
      · obtain rfl : k = N := by omega
        obtain ⟨g, cap, rfl, hgB, hgg⟩ : ∃ g cap, u6 = .slice (some ⟨g, 0, none⟩) k cap ∧ w.heap.size ≤ g ∧ IG wA g cap (upI k) := by
          rcases hgw.form with ⟨-, h⟩ | ⟨g, cap, hv, hg, hi⟩
          · have := congrArg List.length h
            rw [upI_length] at this; simp at this; omega
          · rw [upI_length] at hv; exact ⟨g, cap, hv, hg, hi⟩
        have HG := Lib.hid hgg
        have HB := Lib.hid hbw
        clear hgw hgg hbw
        go_wp2
        go_loopw [8, 9] (fun va vi wr => ∃ (at_ i : Nat) (l : List Int), va = .int .u64 (at_ : Int) ∧ vi = .int .i64 (i : Int) ∧ i < k ∧ at_ < 18446744073709551616 ∧ l.length = k ∧ Below w.heap.size w wr ∧ IG wr g cap l ∧ Hid (R = ordGo seed i at_ l)) (fun _ vi _ => (RowKit.intOf vi).toNat)
        case atStart => exact ⟨0, n, upI k, by rfl, by first | rfl | go_num, by omega, by omega, upI_length k, HB.out, HG.out, HL.out⟩
        case round =>
        obtain ⟨at_, i, l, rfl, rfl, hiN, hat, hl, hbw, hgw, hR⟩ := hrel
        rename World => wA
        cases i with
        | zero =>
          have HR := Lib.hid (show R = l from hR.out)
          have HS := Lib.hid hgw
          have HK := Lib.hid hbw
          clear hgw hbw hR
          go_wp2
          go_ret2
          refine ⟨_, rfl, ?_, HK.out⟩
          rw [HR.out]
          have := HS.out.list hgB
          rwa [hl] at this
        | succ i =>
          have HBel := Lib.hid (rBelow_any seed at_ (i + 2) (by omega) hat (by omega) wA)
          have hj := belowN_lt seed at_ (i + 2) (by omega)
          have hat' := nextN_lt seed at_ (i + 2)
          have HR := Lib.hid (show R = ordGo seed i (nextN seed at_ (i + 2)) (swapI l (i + 1) (belowN seed at_ (i + 2))) from hR.out)
          generalize belowN seed at_ (i + 2) = j at *
          generalize nextN seed at_ (i + 2) = at2 at *
          obtain ⟨e1, e2⟩ := conv_walk (i + 1) (by omega)
          obtain ⟨q, hq⟩ : ∃ q, q = i + 2 := ⟨_, rfl⟩
          obtain ⟨p, hp⟩ : ∃ p, p = i + 1 := ⟨_, rfl⟩
          rw [← hp] at e1 e2 hiN HR ⊢
          rw [show p + 1 = q by omega] at e2
          rw [← hq] at HBel
          have e3 : (p : Int) - 1 = (i : Int) := by omega
          have p0 : (0 : Int) < (p : Int) := by omega
          have p1 : (0 : Int) ≤ (p : Int) := by omega
          have p2 : (p : Int) < (k : Int) := by omega
          have j1 : (0 : Int) ≤ (j : Int) := by omega
          have j2 : (j : Int) < (k : Int) := by omega
          have HQ := Lib.hid hq
          have HP := Lib.hid hp
          have HLL := Lib.hid hl
          have HGW := Lib.hid hgw
          have HBW := Lib.hid hbw
          have HJ := Lib.hid hj
          clear hq hp hl hgw hbw hj hR
          go_wp2_with fail
          refine HBel.out.mono ?_
          rintro e w2 ⟨rfl, rfl⟩
          have hg2 := HGW.out
          have hb3 := HBW.out
          obtain ⟨x, hx⟩ : ∃ x, l[p]? = some x := ⟨_, List.getElem?_eq_getElem (by have := HLL.out; omega)⟩
          obtain ⟨y, hy⟩ : ∃ y, l[j]? = some y := ⟨_, List.getElem?_eq_getElem (by have := HLL.out; omega)⟩
          have c1 := hg2.cell hx
          have c2 := hg2.cell hy
          have f1 := hg2.free p
          have f2 := hg2.free j
          obtain ⟨z, hz⟩ : ∃ z, (l.set p y)[j]? = some z := ⟨_, List.getElem?_eq_getElem (by have := HLL.out; simp; omega)⟩
          have c3 := (hg2.set p y).cell hz
          have s1 := swapI_eq hx hy
          have HS := Lib.hid (show IG ((w2.setCell ⟨g, p, none⟩ (iv y)).setCell ⟨g, j, none⟩ (iv x)) g cap (swapI l p j) from by rw [s1]; exact (hg2.set p y).set j x)
          have HK := Lib.hid (show Below w.heap.size w ((w2.setCell ⟨g, p, none⟩ (iv y)).setCell ⟨g, j, none⟩ (iv x)) from (hb3.setCell (p := ⟨g, p, none⟩) hgB _).setCell (p := ⟨g, j, none⟩) hgB _)
          have HX := Lib.hid hx
          have HY := Lib.hid hy
          clear hg2 hb3 hx hy s1
          by_cases hpj : p = j
          · subst hpj
            obtain rfl : x = y := by have h1 := HX.out; rw [HY.out] at h1; cases h1; rfl
            clear c3
            as_aux_lemma =>
              go_wp2_with fail
              go_region
              go_wp2_with fail
              go_roundw
              case rel => exact ⟨at2, i, swapI l p p, by rfl, by first | rfl | go_num, by have := HP.out; omega, by omega, by rw [swapI_length]; exact HLL.out, HK.out.drew, HS.out.drew, HR⟩
              case measure => have := HP.out; simp [RowKit.intOf]; omega
          · clear c3
            as_aux_lemma =>
              go_wp2_with fail
              go_region
              go_wp2_with fail
              go_roundw
              case rel => exact ⟨at2, i, swapI l p j, by rfl, by first | rfl | go_num, by have := HP.out; omega, by omega, by rw [swapI_length]; exact HLL.out, HK.out.drew, HS.out.drew, HR⟩
              case measure => have := HP.out; simp [RowKit.intOf]; omega
end Go.Proofs.Ytdhefefhipdlcaa
