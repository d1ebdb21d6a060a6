/- joustref27.Lots and Of: walked. -/
import Derived.Test.YtdhefefhipdlcaaMxRLeft
import Derived.Test.YtdhefefhipdlcaaMxLots
namespace Go.Proofs.Ytdhefefhipdlcaa
open Go.RowKit Go.Lib

/-- Two lists of the own: what is left, laid at D or behind, and what was told so far, ahead of D. -/
structure TwoL (D : Nat) (v5 v6 : Value) (left done : List Int) (w V : World) : Prop where
  le : w.heap.size ≤ D
  lt : D ≤ V.heap.size
  a : IL V D v5 left
  b : IL V w.heap.size v6 done
  far : ∀ g, v6.ownBlock = some g → g < D
  bel : Below w.heap.size w V
theorem TwoL.below {D : Nat} {v5 v6 : Value} {left done : List Int} {w V V' : World} (h : TwoL D v5 v6 left done w V) (hb : Below V.heap.size V V') : TwoL D v5 v6 left done w V' :=
  ⟨h.le, Nat.le_trans h.lt hb.size, h.a.below hb, h.b.below hb, h.far, h.bel.trans (hb.mono h.bel.size)⟩
theorem IL.own_lt {w : World} {B : Nat} {v : Value} {xs : List Int} (h : IL w B v xs) : ∀ g, v.ownBlock = some g → g < w.heap.size := fun g hg => by
  rcases h.form with ⟨rfl, rfl⟩ | ⟨g', cap, rfl, -, hi⟩
  · cases hg
  · cases hg; exact hi.lt
/-- Told one more: what is left lies as it lay. -/
theorem TwoL.tell {D : Nat} {v5 v6 v6' : Value} {left done : List Int} {w V V' : World} {x : Int} (h : TwoL D v5 v6 left done w V) (ho : V'.ownsRow w.heap.size 3 1 v6' (done.length + 1) (done.map iv ++ [iv x])) (hg : V.grownBy V' v6.ownBlock) :
    IL V' D v5 left ∧ IL V' w.heap.size v6' (done ++ [x]) ∧ Below w.heap.size w V' :=
  ⟨h.a.same fun k hk => hg.block k (h.a.own_lt k hk) (fun e => by
      have h1 := h.far k e.symm
      have h2 := h.a.block k hk
      omega), IL.snoc ho, h.bel.grown hg h.bel.size (h.b.block)⟩

theorem rlots_big (p : Option Addr) (n c : Nat) (hn : 1000 < n) (w : World) :
    Calls Try.prog 21 #[.slice p n c] w fun e w' => e = .returned (.tuple #[.slice none 0 0, .int .i64 2]) ∧ w' = w := by
  go_enter Try.func21, Try.ntmps21
  go_wp2
  go_ret2
  exact ⟨rfl, rfl⟩
theorem rof_big (p : Option Addr) (n c : Nat) (hn : 1000 < n) (w : World) :
    Calls Try.prog 23 #[.slice p n c] w fun e w' => e = .returned (.tuple #[.slice none 0 0, .int .i64 2]) ∧ w' = w := by
  go_enter Try.func23, Try.ntmps23
  go_wp2
  go_ret2
  exact ⟨rfl, rfl⟩
theorem rleft_all (n : Nat) (hn : n ≤ 1000) (w : World) :
    Calls Try.prog 31 #[.int .i64 (n : Int), .slice none 0 0] w fun e w' => ∃ v, e = .returned v ∧ IL w' w.heap.size v (upI n) ∧ Below w.heap.size w w' := by
  have := rleft_any n hn none 0 [] w (IntsAt.nil _ _) (by simp)
  rwa [leftI_nil] at this

set_option maxHeartbeats 8000000 in
set_option maxRecDepth 100000 in
theorem rlots_none (p : Option Addr) (c : Nat) (xs : List Int) (w : World) (hx : IntsAt w p xs) (hn : xs.length ≤ 1000) (hl : leftI xs.length xs ≠ []) :
    Calls Try.prog 21 #[.slice p xs.length c] w fun e w' => e = .returned (.tuple #[.slice none 0 0, .int .i64 2]) ∧ Below w.heap.size w w' := by
  have HLF := Lib.hid (rleft_any xs.length hn p c xs w hx (by unfold maxLen; omega))
  have hpos : 0 < (leftI xs.length xs).length := List.length_pos_iff.2 hl
  generalize leftI xs.length xs = l at *
  generalize xs.length = n at *
  clear hx hl
  have d1 : ¬ 1000 < (n : Int) := by omega
  go_enter Try.func21, Try.ntmps21
  go_wp2_with fail
  with_reducible refine HLF.out.mono ?_
  rintro e w1 ⟨v, rfl, hi, hb⟩
  obtain ⟨p1, c1, rfl, -⟩ := hi.ints
  have HB := Lib.hid hb
  have d2 : (0 : Int) < (l.length : Int) := by omega
  clear hi hb
  go_wp2
  go_ret2
  exact ⟨rfl, HB.out⟩

set_option maxHeartbeats 8000000 in
set_option maxRecDepth 100000 in
theorem rlots_some (p : Option Addr) (c : Nat) (xs : List Int) (w : World) (hx : IntsAt w p xs) (hn : xs.length ≤ 1000) (hl : leftI xs.length xs = []) (r : List Int) (hr : lotsI (upI xs.length) xs = some r) :
    Calls Try.prog 21 #[.slice p xs.length c] w fun e w' => ∃ v, e = .returned (.tuple #[v, .int .i64 0]) ∧ IL w' w.heap.size v r ∧ Below w.heap.size w w' := by
  obtain ⟨i0, hi0, hz0, hz1, hz2⟩ := info_parts Try.info_int
  have HLF := Lib.hid (rleft_any xs.length hn p c xs w hx (by unfold maxLen; omega))
  rw [hl] at HLF
  have HLA := Lib.hid (fun w => rleft_all xs.length hn w)
  have HX := Lib.hid hx
  have HR := Lib.hid (show some r = (lotsI (upI xs.length) (xs.drop 0)).map ([] ++ ·) by simp [hr])
  have HS := Lib.hid (upI_sorted xs.length)
  have HUL := Lib.hid (upI_length xs.length)
  generalize upI xs.length = U at *
  obtain ⟨n, hN⟩ : ∃ n, n = xs.length := ⟨_, rfl⟩
  rw [← hN] at hn HLF HLA HUL ⊢
  have HN := Lib.hid hN
  clear hx hl hr hN
  have d1 : ¬ 1000 < (n : Int) := by omega
  go_enter Try.func21, Try.ntmps21
  go_wp2_with fail
  with_reducible refine HLF.out.mono ?_
  rintro e w1 ⟨v1, rfl, hi1, hb1⟩
  obtain ⟨p1, c1, rfl, -⟩ := hi1.ints
  have HB1 := Lib.hid hb1
  clear hi1 hb1
  simp only [List.length_nil]
  go_wp2_with fail
  with_reducible refine (HLA.out _).mono ?_
  rintro e w2 ⟨v2, rfl, hi2, hb2⟩
  have HT := Lib.hid (show TwoL w1.heap.size v2 (.slice none 0 0) U [] w w2 from ⟨HB1.out.size, hb2.size, hi2, IL.nil _ _, (fun _ hg => nomatch hg), HB1.out.trans (hb2.mono HB1.out.size)⟩)
  clear hi2 hb2 HB1
  go_wp2_with fail
  go_loopw [5, 6, 7, 8] (fun v5 v6 vi _ wr => ∃ (i D : Nat) (left done : List Int), vi = .int .i64 (i : Int) ∧ i + left.length = n ∧ done.length = i ∧ left.Pairwise (· < ·) ∧ TwoL D v5 v6 left done w wr ∧ Hid (some r = (lotsI left (xs.drop i)).map (done ++ ·))) (fun _ _ vi _ _ => n - (RowKit.intOf vi).toNat)
  case atStart => exact ⟨0, w1.heap.size, U, [], by rfl, by have := HUL.out; omega, rfl, HS.out, HT.out, HR⟩
  case round =>
    obtain ⟨i, D, left, done, rfl, him, hd, hs, hT, hR⟩ := hrel
    rename World => wA
    by_cases hlt : i < n
    · obtain ⟨x, hx⟩ : ∃ x, xs[i]? = some x := ⟨xs[i]'(by have := HN.out; omega), List.getElem?_eq_getElem _⟩
      have hdrop : xs.drop i = x :: xs.drop (i + 1) := by
        obtain ⟨hh, he⟩ := List.getElem?_eq_some_iff.1 hx
        rw [← he]; exact List.drop_eq_getElem_cons hh
      have hR2 := hR.out
      rw [hdrop, lotsI] at hR2
      have hc : left.contains x = true := by
        cases h : left.contains x with
        | true => rfl
        | false => rw [h] at hR2; simp at hR2
      rw [if_pos hc] at hR2
      have hm : x ∈ left := by simpa using hc
      have hg := place_get hs hm
      have huq : ∀ t, left[t]? = some x → t = left.countP (· < x) := fun t ht => (place_of hs ht).symm
      generalize left.countP (· < x) = K at *
      have hKl := (List.getElem?_eq_some_iff.1 hg).1
      obtain ⟨q, rfl, hq⟩ := (HX.out.below hT.bel) i x hx
      obtain ⟨g, cap, rfl, hDg, hig⟩ : ∃ g cap, u5 = .slice (some ⟨g, 0, none⟩) left.length cap ∧ D ≤ g ∧ IG wA g cap left := by
        rcases hT.a.form with ⟨-, h⟩ | h
        · rw [h] at hKl; simp at hKl
        · exact h
      have HRR := Lib.hid (show some r = (lotsI (left.eraseIdx K) (xs.drop (i + 1))).map ((done ++ [(K : Int)]) ++ ·) from by
        rw [hR2, Option.map_map]; congr 1; funext l; simp)
      have HT := Lib.hid hT
      have HG := Lib.hid hg
      have HU := Lib.hid huq
      have HIG := Lib.hid hig
      have HSS := Lib.hid hs
      have HXI := Lib.hid hx
      have HD := Lib.hid hd
      obtain ⟨m, hmm⟩ : ∃ m, m = left.length := ⟨_, rfl⟩
      rw [← hmm] at hKl him ⊢
      have HM := Lib.hid hmm
      have i1 : (i : Int) < (n : Int) := by omega
      have i2 : (0 : Int) ≤ (i : Int) := by omega
      clear hx hdrop hR hR2 hc hm hg huq hT hig hs hd hmm hDg hq
      go_wp2_with fail
      go_loopw [8] (fun va wr => ∃ t : Nat, va = .int .i64 (t : Int) ∧ t ≤ K ∧ Below wA.heap.size wA wr) (fun va _ => K - (RowKit.intOf va).toNat)
      case atStart => exact ⟨0, by rfl, Nat.zero_le _, Below.refl _ _⟩
      case round =>
        obtain ⟨t, rfl, ht, hbt⟩ := hrel
        rename World => wB
        obtain ⟨y, hy⟩ : ∃ y, left[t]? = some y := ⟨left[t]'(by have := HM.out; omega), List.getElem?_eq_getElem _⟩
        have c1 := (HIG.out.below hbt).cell hy
        obtain ⟨q', hqq, hqc⟩ := (HX.out.below (HT.out.below hbt).bel) i x HXI.out
        cases hqq
        have t0 : (0 : Int) ≤ (t : Int) := by omega
        have t1 : (t : Int) < (m : Int) := by omega
        by_cases htk : t = K
        · subst htk
          obtain rfl : y = x := by have h := HG.out; rw [hy] at h; cases h; rfl
          have q1 : (y != y) = false := by simp
          have HBT := Lib.hid hbt
          clear hy hbt
          go_wp2_with fail
          go_quiet (fail)
          have hT2 := HT.out.below (below_dr HBT.out nq)
          have hb3 := hT2.b.below ((Below.refl _ (wB.drewN nq)).alloc (Nat.le_refl _) (.cells #[iv (t : Int)] 3))
          have hT3 := hT2.below ((Below.refl _ (wB.drewN nq)).alloc (Nat.le_refl _) (.cells #[iv (t : Int)] 3))
          have HT3 := Lib.hid hT3
          unfold IL at hb3
          rw [HD.out] at hb3
          have hsz := hT3.bel.size
          clear hT2 hT3 c1 hqc
          go_wp2_with (at_builtin; refine wpList_append_own _ rfl _ _ 32 rfl w.heap.size 3 i0 (.int .i64 0) 1 8 Try.underlying32 hi0 hz0 hz1 hz2 rfl (by decide) _ _ _ rfl hb3 ⟨(wB.drewN nq).heap.size, 0, none⟩ 1 1 [iv (t : Int)] rfl rfl ?c2 ?c3 ?c4 ?c5 ?c6 ?_)
          case c2 => exact cell_one_new _ _ _
          case c3 => intro u hu; simp at hu; subst hu; rfl
          case c4 => unfold maxLen; omega
          case c5 => omega
          case c6 => exact hsz
          intro v6 w9 hown' hgrow _
          obtain ⟨ha9, hb9, hw9⟩ := HT3.out.tell (by rw [HD.out]; exact hown') hgrow
          have hig9 : IG w9 g cap left := by
            rcases ha9.form with ⟨h, -⟩ | ⟨g', cap', h, -, hi⟩
            · cases h
            · cases h; exact hi
          have HW := Lib.hid (rwithout_any g cap t left w9 hig9 (by have := HM.out; omega) (by have := HM.out; omega))
          rw [← HM.out] at HW
          have HB9 := Lib.hid hb9
          have HW9 := Lib.hid hw9
          clear hown' hgrow ha9 hb9 hw9 hig9 hb3
          go_wp2_with fail
          with_reducible refine HW.out.mono ?_
          rintro e w10 ⟨v5, rfl, hi, hb⟩
          have HTT := Lib.hid (show TwoL w9.heap.size v5 v6 (left.eraseIdx t) (done ++ [(t : Int)]) w w10 from ⟨HW9.out.size, hb.size, hi, HB9.out.below hb, HB9.out.own_lt, HW9.out.trans (hb.mono HW9.out.size)⟩)
          clear hi hb
          go_wp2
          go_roundw
          case rel => exact ⟨i + 1, w9.heap.size, left.eraseIdx t, done ++ [(t : Int)], by go_num, by have := HM.out; rw [List.length_eraseIdx_of_lt (by omega)]; omega, by simp [HD.out], erase_sorted HSS.out _, HTT.out, HRR⟩
          case measure => simp [RowKit.intOf]; omega
        · have q1 : (y != x) = true := by
            simp only [bne_iff_ne]
            intro e
            exact htk (HU.out t (by rw [← e]; exact hy))
          have HBT := Lib.hid hbt
          clear hy hbt
          go_wp2_with fail
          go_quiet (fail)
          go_wp2_with fail
          go_roundw
          case rel => exact ⟨t + 1, by go_num, by omega, below_dr HBT.out _⟩
          case measure => simp [RowKit.intOf]; omega
    · obtain rfl : i = n := by omega
      have hn0 : left = [] := List.length_eq_zero_iff.1 (by omega)
      have HE := Lib.hid (show r = done from by
        have := hR.out
        rw [List.drop_of_length_le (by have := HN.out; omega), lotsI] at this
        simpa using this)
      have HI := Lib.hid hT.b
      have HBB := Lib.hid hT.bel
      clear hT hR hs hd
      go_wp2
      go_ret2
      exact ⟨_, rfl, by rw [HE.out]; exact HI.out, HBB.out⟩
theorem rlots_any (p : Option Addr) (c : Nat) (xs : List Int) (w : World) (hx : IntsAt w p xs) (hn : xs.length ≤ 1000) :
    Calls Try.prog 21 #[.slice p xs.length c] w fun e w' => ∃ v, e = .returned (.tuple #[v, .int .i64 (lotsE (lotsI (upI xs.length) xs))]) ∧ IL w' w.heap.size v ((lotsI (upI xs.length) xs).getD []) ∧ Below w.heap.size w w' := by
  by_cases hl : leftI xs.length xs = []
  · obtain ⟨r, hr⟩ := lots_full (upI_sorted xs.length) (by rw [upI_length]) (leftI_none.1 hl)
    refine (rlots_some p c xs w hx hn hl r hr).mono fun e w' ⟨v, he, hi, hb⟩ => ⟨v, by rw [hr]; exact he, by rw [hr]; exact hi, hb⟩
  · have hr : lotsI (upI xs.length) xs = none := by
      cases h : lotsI (upI xs.length) xs with
      | none => rfl
      | some r => exact absurd (leftI_none.2 (lots_all (upI_sorted _) (by rw [upI_length]) h)) hl
    refine (rlots_none p c xs w hx hn hl).mono fun e w' ⟨he, hb⟩ => ⟨_, by rw [hr]; exact he, by rw [hr]; exact IL.nil _ _, hb⟩

set_option maxHeartbeats 8000000 in
set_option maxRecDepth 100000 in
theorem rof_any (p : Option Addr) (c : Nat) (xs : List Int) (w : World) (hx : IntsAt w p xs) (hn : xs.length ≤ 1000) :
    Calls Try.prog 23 #[.slice p xs.length c] w fun e w' => ∃ v, e = .returned (.tuple #[v, .int .i64 (lotsE (ofI (upI xs.length) xs))]) ∧ IL w' w.heap.size v ((ofI (upI xs.length) xs).getD []) ∧ Below w.heap.size w w' := by
  obtain ⟨i0, hi0, hz0, hz1, hz2⟩ := info_parts Try.info_int
  have HLA := Lib.hid (fun w => rleft_all xs.length hn w)
  have HX := Lib.hid hx
  have HR := Lib.hid (show ofI (upI xs.length) xs = (ofI (upI xs.length) (xs.drop 0)).map ([] ++ ·) by simp)
  generalize hR : ofI (upI xs.length) xs = R at *
  have HUL := Lib.hid (upI_length xs.length)
  generalize upI xs.length = U at *
  obtain ⟨n, hN⟩ : ∃ n, n = xs.length := ⟨_, rfl⟩
  rw [← hN] at hn HLA HUL ⊢
  have HN := Lib.hid hN
  clear hx hR hN
  have d1 : ¬ 1000 < (n : Int) := by omega
  go_enter Try.func23, Try.ntmps23
  go_wp2_with fail
  with_reducible refine (HLA.out _).mono ?_
  rintro e w2 ⟨v2, rfl, hi2, hb2⟩
  have HT := Lib.hid (show TwoL w.heap.size v2 (.slice none 0 0) U [] w w2 from ⟨Nat.le_refl _, hb2.size, hi2, IL.nil _ _, (fun _ hg => nomatch hg), hb2⟩)
  clear hi2 hb2
  go_wp2_with fail
  go_loopw [5, 6, 7] (fun v5 v6 vi wr => ∃ (i D : Nat) (left done : List Int), vi = .int .i64 (i : Int) ∧ i + left.length = n ∧ done.length = i ∧ TwoL D v5 v6 left done w wr ∧ Hid (R = (ofI left (xs.drop i)).map (done ++ ·))) (fun _ _ vi _ => n - (RowKit.intOf vi).toNat)
  case atStart => exact ⟨0, w.heap.size, U, [], by rfl, by have := HUL.out; omega, rfl, HT.out, HR⟩
  case round =>
    obtain ⟨i, D, left, done, rfl, him, hd, hT, hR⟩ := hrel
    rename World => wA
    by_cases hlt : i < n
    · obtain ⟨x, hx⟩ : ∃ x, xs[i]? = some x := ⟨xs[i]'(by have := HN.out; omega), List.getElem?_eq_getElem _⟩
      have hdrop : xs.drop i = x :: xs.drop (i + 1) := by
        obtain ⟨hh, he⟩ := List.getElem?_eq_some_iff.1 hx
        rw [← he]; exact List.drop_eq_getElem_cons hh
      have hstep : Hid (R = if 0 ≤ x ∧ x < left.length then ((ofI (left.eraseIdx x.toNat) (xs.drop (i + 1))).map (left.getD x.toNat 0 :: ·)).map (done ++ ·) else none) := Lib.hid (by
        rw [hR.out, hdrop, ofI]
        split <;> simp)
      obtain ⟨q, rfl, hq⟩ := (HX.out.below hT.bel) i x hx
      obtain ⟨g, cap, rfl, hDg, hig⟩ : ∃ g cap, u5 = .slice (some ⟨g, 0, none⟩) left.length cap ∧ D ≤ g ∧ IG wA g cap left := by
        rcases hT.a.form with ⟨-, h⟩ | h
        · rw [h] at him; simp at him; omega
        · exact h
      have HT := Lib.hid hT
      have HIG := Lib.hid hig
      have HXI := Lib.hid hx
      have HD := Lib.hid hd
      obtain ⟨m, hmm⟩ : ∃ m, m = left.length := ⟨_, rfl⟩
      rw [← hmm] at him hstep ⊢
      have HM := Lib.hid hmm
      have i1 : (i : Int) < (n : Int) := by omega
      have i2 : (0 : Int) ≤ (i : Int) := by omega
      clear hx hdrop hR hT hig hd hmm hDg
      by_cases hx0 : x < 0
      · have HE := Lib.hid (show R = none from by rw [hstep.out, if_neg (by omega)])
        have HBB := Lib.hid HT.out.bel
        clear hstep
        go_wp2
        go_ret2
        exact ⟨_, by rw [HE.out]; rfl, by rw [HE.out]; exact IL.nil _ _, HBB.out⟩
      · by_cases hxm : x < (m : Int)
        · obtain ⟨k, rfl⟩ : ∃ k : Nat, x = (k : Int) := ⟨x.toNat, by omega⟩
          have hkm : k < m := by omega
          obtain ⟨z, hz⟩ : ∃ z, left[k]? = some z := ⟨left[k]'(by have := HM.out; omega), List.getElem?_eq_getElem _⟩
          have HR3 := Lib.hid (show R = (ofI (left.eraseIdx k) (xs.drop (i + 1))).map ((done ++ [z]) ++ ·) from by
            rw [hstep.out, if_pos ⟨by omega, by omega⟩, Option.map_map]
            simp only [Int.toNat_natCast]
            rw [show left.getD k 0 = z by simp [List.getD, hz]]
            congr 1; funext l; simp)
          have k0 : (0 : Int) ≤ (k : Int) := by omega
          have d2 : ¬ (m : Int) ≤ (k : Int) := by omega
          have c1 := HIG.out.cell hz
          have hb3 := HT.out.b.below ((Below.refl _ wA).alloc (Nat.le_refl _) (.cells #[iv z] 3))
          have hT3 := HT.out.below ((Below.refl _ wA).alloc (Nat.le_refl _) (.cells #[iv z] 3))
          have HT3 := Lib.hid hT3
          unfold IL at hb3
          rw [HD.out] at hb3
          have hsz := hT3.bel.size
          clear hT3 hz hstep hx0
          go_wp2_with (at_builtin; refine wpList_append_own _ rfl _ _ 32 rfl w.heap.size 3 i0 (.int .i64 0) 1 8 Try.underlying32 hi0 hz0 hz1 hz2 rfl (by decide) _ _ _ rfl hb3 ⟨wA.heap.size, 0, none⟩ 1 1 [iv z] rfl rfl ?c2 ?c3 ?c4 ?c5 ?c6 ?_)
          case c3 => first | rfl | (intro u hu; simp at hu; subst hu; rfl)
          case c4 => unfold maxLen; omega
          case c5 => omega
          case c6 => first | exact hsz | simpa using hsz
          intro v6 w9 hown' hgrow _
          obtain ⟨ha9, hb9, hw9⟩ := HT3.out.tell (by rw [HD.out]; exact hown') hgrow
          have hig9 : IG w9 g cap left := by
            rcases ha9.form with ⟨h, -⟩ | ⟨g', cap', h, -, hi⟩
            · cases h
            · cases h; exact hi
          have HW := Lib.hid (rwithout_any g cap k left w9 hig9 (by have := HM.out; omega) (by have := HM.out; omega))
          rw [← HM.out] at HW
          have HB9 := Lib.hid hb9
          have HW9 := Lib.hid hw9
          obtain ⟨q', hqq, hqc⟩ := (HX.out.below hw9) i (k : Int) HXI.out
          cases hqq
          clear hown' hgrow ha9 hb9 hw9 hig9 hb3 c1 hq
          go_wp2_with fail
          with_reducible refine HW.out.mono ?_
          rintro e w10 ⟨v5, rfl, hi, hb⟩
          have HTT := Lib.hid (show TwoL w9.heap.size v5 v6 (left.eraseIdx k) (done ++ [z]) w w10 from ⟨HW9.out.size, hb.size, hi, HB9.out.below hb, HB9.out.own_lt, HW9.out.trans (hb.mono HW9.out.size)⟩)
          clear hi hb hqc
          go_wp2
          go_roundw
          case rel => exact ⟨i + 1, w9.heap.size, left.eraseIdx k, done ++ [z], by go_num, by have := HM.out; rw [List.length_eraseIdx_of_lt (by omega)]; omega, by simp [HD.out], HTT.out, HR3⟩
          case measure => simp [RowKit.intOf]; omega
        · have HE := Lib.hid (show R = none from by rw [hstep.out, if_neg (by omega)])
          have HBB := Lib.hid HT.out.bel
          have d2 : (m : Int) ≤ x := by omega
          clear hstep
          go_wp2
          go_ret2
          exact ⟨_, by rw [HE.out]; rfl, by rw [HE.out]; exact IL.nil _ _, HBB.out⟩
    · obtain rfl : i = n := by omega
      have hn0 : left = [] := List.length_eq_zero_iff.1 (by omega)
      have HE := Lib.hid (show R = some done from by
        rw [hR.out, List.drop_of_length_le (by have := HN.out; omega), ofI]; simp)
      have HI := Lib.hid hT.b
      have HBB := Lib.hid hT.bel
      clear hT hR hd
      go_wp2
      go_ret2
      exact ⟨_, by rw [HE.out]; rfl, by rw [HE.out]; exact HI.out, HBB.out⟩
end Go.Proofs.Ytdhefefhipdlcaa
