/- mix.Lots and mix.Of: walked. -/
import Derived.Test.YtdhefefhipdlcaaMxFind
import Derived.Test.YtdhefefhipdlcaaMxOrder
import Derived.Deep.CutBlock
import Derived.Deep.DeepCutAuto
namespace Go.Proofs.Ytdhefefhipdlcaa
open Go.RowKit Go.Lib

/-- Two rows of n places: what is left, and what was told so far. -/
structure TwoR (n : Nat) (left done : List Int) (a b : Nat) (w V : World) : Prop where
  ne : a ≠ b
  la : w.heap.size ≤ a
  lb : w.heap.size ≤ b
  ra : IG V a n left
  rb : IG V b n (done ++ List.replicate (n - done.length) 0)
  bel : Below w.heap.size w V
theorem rep_set {n : Nat} {done : List Int} (h : done.length < n) (x : Int) : (done ++ List.replicate (n - done.length) 0).set done.length x = (done ++ [x]) ++ List.replicate (n - (done ++ [x]).length) 0 := by
  have e : List.replicate (n - done.length) (0 : Int) = 0 :: List.replicate (n - (done.length + 1)) 0 := by rw [← List.replicate_succ]; congr 1; omega
  rw [e, List.set_append_right _ _ (Nat.le_refl _), Nat.sub_self, List.set_cons_zero]
  simp
theorem TwoR.tell {n : Nat} {left done : List Int} {a b : Nat} {w V : World} (h : TwoR n left done a b w V) (hd : done.length < n) (x : Int) : TwoR n left (done ++ [x]) a b w (V.setCell ⟨b, done.length, none⟩ (iv x)) :=
  ⟨h.ne, h.la, h.lb, h.ra.far (by simpa using h.ne) _, by rw [← rep_set hd]; exact h.rb.set _ x, h.bel.setCell (p := ⟨b, done.length, none⟩) h.lb _⟩
theorem TwoR.erase {n : Nat} {left done : List Int} {a b : Nat} {w V V' : World} (h : TwoR n left done a b w V) {l' : List Int} (hi : IG V' a n l') (hk : Kept a V V') : TwoR n l' done a b w V' :=
  ⟨h.ne, h.la, h.lb, hi, h.rb.same (hk.block b h.rb.lt (Ne.symm h.ne)), h.bel.trans (hk.below h.bel.size h.la)⟩
theorem TwoR.drewN {n : Nat} {left done : List Int} {a b : Nat} {w V : World} (h : TwoR n left done a b w V) (q : Nat) : TwoR n left done a b w (V.drewN q) :=
  ⟨h.ne, h.la, h.lb, h.ra.same rfl, h.rb.same rfl, below_dr h.bel q⟩

theorem two_a {n : Nat} {w w1 : World} (hn : n ≤ 1000) (hg : IG w1 w.heap.size n (upI n)) (hb : Below w.heap.size w w1) : TwoR n (upI n) [] w.heap.size w1.heap.size w (w1.alloc (.cells (madeCells #[.int .i64 0] n) 3)) :=
  ⟨by have := hg.lt; omega, Nat.le_refl _, hb.size, hg.below ((Below.refl _ _).alloc (Nat.le_refl _) _), by simpa using IG.made w1 n (by unfold maxLen; omega), hb.alloc hb.size _⟩
theorem two_b {n : Nat} {w w1 : World} (hn : n ≤ 1000) (hg : IG w1 (w.alloc (.cells (madeCells #[.int .i64 0] n) 3)).drew.heap.size n (upI n)) (hb : Below (w.alloc (.cells (madeCells #[.int .i64 0] n) 3)).drew.heap.size (w.alloc (.cells (madeCells #[.int .i64 0] n) 3)).drew w1) : TwoR n (upI n) [] (w.heap.size + 1) w.heap.size w w1 := by
  have e : (w.alloc (.cells (madeCells #[.int .i64 0] n) 3)).drew.heap.size = w.heap.size + 1 := by simp [World.drew]
  rw [e] at hg hb
  have hm := IG.made w n (by unfold maxLen; omega)
  have hm' : IG w1 w.heap.size n (List.replicate n 0) := hm.same (hb.block _ (by omega))
  refine ⟨by omega, by omega, Nat.le_refl _, hg, by simpa using hm', (((Below.refl _ w).alloc (Nat.le_refl _) _).drew).trans (hb.mono (by omega))⟩

theorem lots_err (p : Option Addr) (n c : Nat) (hn : 1000 < n) (w : World) :
    Calls Try.prog 20 #[.slice p n c] w fun e w' => e = .returned (.tuple #[.slice none 0 0, .int .i64 2]) ∧ w' = w := by
  go_enter Try.func20, Try.ntmps20
  go_wp2
  go_ret2
  exact ⟨rfl, rfl⟩
/-- What Lots answers. -/
def lotsE (r : Option (List Int)) : Int := if r.isSome then 0 else 2
set_option maxHeartbeats 8000000 in
set_option maxRecDepth 100000 in
theorem lots_any (p : Option Addr) (c : Nat) (xs : List Int) (w : World) (hx : IntsAt w p xs) (hn : xs.length ≤ 1000) :
    Calls Try.prog 20 #[.slice p xs.length c] w fun e w' => ∃ v, e = .returned (.tuple #[v, .int .i64 (lotsE (lotsI (upI xs.length) xs))]) ∧ IL w' w.heap.size v ((lotsI (upI xs.length) xs).getD []) ∧ Below w.heap.size w w' := by
  have HX := Lib.hid hx
  have HR := Lib.hid (show lotsI (upI xs.length) xs = (lotsI (upI xs.length) (xs.drop 0)).map ([] ++ ·) by simp)
  generalize hR : lotsI (upI xs.length) xs = R at *
  obtain ⟨n, hN⟩ : ∃ n, n = xs.length := ⟨_, rfl⟩
  rw [← hN] at hn HR ⊢
  have HN := Lib.hid hN
  have hmk := make_ints n (by omega)
  clear hx hR hN
  go_enter Try.func20, Try.ntmps20
  go_upto_region 3 with fail
  go_cut [4, 5] from 13 to 18 (fun s4 s5 wx => ∃ a b : Nat, s4 = .slice (some ⟨a, 0, none⟩) n n ∧ s5 = .slice (some ⟨b, 0, none⟩) n n ∧ TwoR n (upI n) [] a b w wx)
  case first =>
    as_aux_lemma =>
      go_region_with (first | (go_at_call 28; refine (upTo_any n hn _).mono ?_; rintro e w1 ⟨rfl, hg1, hb1⟩))
      all_goals go_wp2_with fail
      all_goals go_meet
      all_goals first | exact ⟨_, _, rfl, rfl, two_a (w := w) hn hg1 ((Below.refl _ w).drew.trans hb1)⟩ | exact ⟨_, _, rfl, rfl, two_b hn hg1 hb1⟩
  case rest =>
    as_aux_lemma =>
      obtain ⟨a, b, rfl, rfl, hT⟩ := hcut
      have HT := Lib.hid hT
      have HLT := Lib.hid (upI_length n)
      have HS := Lib.hid (upI_sorted n)
      clear hT
      generalize upI n = U at *
      go_wp2_with fail
      go_loopw [4, 21] (fun v4 vi wr => ∃ (i m : Nat) (left done : List Int), vi = .int .i64 (i : Int) ∧ v4 = .slice (some ⟨a, 0, none⟩) m n ∧ i + m = n ∧ left.length = m ∧ done.length = i ∧ left.Pairwise (· < ·) ∧ TwoR n left done a b w wr ∧ Hid (R = (lotsI left (xs.drop i)).map (done ++ ·))) (fun _ vi _ => n - (RowKit.intOf vi).toNat)
      case atStart => exact ⟨0, n, U, [], by rfl, rfl, by omega, HLT.out, rfl, HS.out, HT.out, HR⟩
      case round =>
        obtain ⟨i, m, left, done, rfl, rfl, him, hm, hd, hs, hT, hR⟩ := hrel
        rename World => wA
        by_cases hlt : i < n
        · obtain ⟨x, hx⟩ : ∃ x, xs[i]? = some x := ⟨xs[i]'(by have := HN.out; omega), List.getElem?_eq_getElem _⟩
          have hdrop : xs.drop i = x :: xs.drop (i + 1) := by
            obtain ⟨hh, he⟩ := List.getElem?_eq_some_iff.1 hx
            rw [← he]; exact List.drop_eq_getElem_cons hh
          obtain ⟨q, rfl, hq⟩ := (HX.out.below hT.bel) i x hx
          have i1 : (i : Int) < (n : Int) := by omega
          have i0 : (0 : Int) ≤ (i : Int) := by omega
          have HFI := Lib.hid (find_any a n left x wA hT.ra hs (by omega))
          rw [hm] at HFI
          have hstep : Hid (R = if left.contains x then ((lotsI (left.eraseIdx (left.countP (· < x))) (xs.drop (i + 1))).map (((left.countP (· < x) : Nat) : Int) :: ·)).map (done ++ ·) else none) := Lib.hid (by
            rw [hR.out, hdrop, lotsI]
            split <;> simp)
          have HT2 := Lib.hid hT
          have HS2 := Lib.hid hs
          have HM := Lib.hid hm
          have HD := Lib.hid hd
          have hcp : left.contains x = true → left.countP (· < x) < left.length := fun hc => (List.getElem?_eq_some_iff.1 (place_get hs (by simpa using hc))).1
          have HCP := Lib.hid hcp
          clear hx hdrop hR hT hs hm hd hcp
          generalize hk : left.countP (· < x) = k at *
          cases hc : left.contains x with
          | false =>
            rw [hc] at hstep HFI
            have HE := Lib.hid (show R = none from by rw [hstep.out]; rfl)
            clear hstep hc
            go_wp2_with fail
            with_reducible refine HFI.out.mono ?_
            rintro e w2 ⟨rfl, q2, rfl⟩
            have HB := Lib.hid (below_dr HT2.out.bel q2)
            go_wp2_with fail
            go_ret2
            exact ⟨_, by rw [HE.out]; rfl, by rw [HE.out]; exact IL.nil _ _, HB.out⟩
          | true =>
            rw [hc] at hstep HFI
            have hkl := HCP.out hc
            have HR3 := Lib.hid (show R = (lotsI (left.eraseIdx k) (xs.drop (i + 1))).map ((done ++ [(k : Int)]) ++ ·) from by
              rw [hstep.out, if_pos rfl, Option.map_map]; congr 1; funext l; simp)
            clear hstep hc
            obtain ⟨k1, hk1⟩ : ∃ k1, k1 = k + 1 := ⟨_, rfl⟩
            have e1 : IntKind.i64.wrap ((k : Int) + 1) = (k1 : Int) := by have := HM.out; rw [IntKind.wrap_i64]; omega
            have e2 : wrap64 ((k : Int) + 1) = (k1 : Int) := by have := HM.out; unfold wrap64; omega
            go_wp2_with fail
            with_reducible refine HFI.out.mono ?_
            rintro e w2 ⟨rfl, q2, rfl⟩
            have hT3 := HT2.out.drewN q2
            have hT4 := hT3.tell (by have := HD.out; omega) (k : Int)
            obtain ⟨y, hy⟩ : ∃ y, (done ++ List.replicate (n - done.length) (0 : Int))[i]? = some y := ⟨_, List.getElem?_eq_getElem (by have := HD.out; simp; omega)⟩
            have c1 := hT3.rb.cell hy
            have f1 := hT3.rb.free i
            rw [HD.out] at hT4
            have HDel := Lib.hid (del_any a n k left _ hT4.ra (by omega))
            rw [HM.out, ← hk1] at HDel
            have HT4 := Lib.hid hT4
            have HK1 := Lib.hid hk1
            clear hT3 hT4 hy hk1
            go_wp2_with fail
            with_reducible refine HDel.out.mono ?_
            rintro e w3 ⟨rfl, hI, hK⟩
            have HT5 := Lib.hid (HT4.out.erase hI hK)
            clear hI hK c1 f1
            go_wp2
            go_roundw
            case rel => exact ⟨i + 1, m - 1, left.eraseIdx k, done ++ [(k : Int)], by go_num, by rfl, by have := HM.out; omega, by rw [List.length_eraseIdx_of_lt (by omega), HM.out], by simp [HD.out], erase_sorted HS2.out _, HT5.out, HR3⟩
            case measure => simp [RowKit.intOf]; omega
        · obtain rfl : i = n := by omega
          have hn0 : left = [] := List.length_eq_zero_iff.1 (by omega)
          have HE := Lib.hid (show R = some done from by
            rw [hR.out, List.drop_of_length_le (by have := HN.out; omega), lotsI]; simp)
          have hrb := hT.rb
          rw [hd, Nat.sub_self, List.replicate_zero, List.append_nil] at hrb
          have HB := Lib.hid hT.bel
          have HI := Lib.hid (hrb.list hT.lb)
          rw [hd] at HI
          clear hT hR hs hm hd hrb
          go_wp2
          go_ret2
          exact ⟨_, by rw [HE.out]; rfl, by rw [HE.out]; exact HI.out, HB.out⟩

theorem of_err (p : Option Addr) (n c : Nat) (hn : 1000 < n) (w : World) :
    Calls Try.prog 22 #[.slice p n c] w fun e w' => e = .returned (.tuple #[.slice none 0 0, .int .i64 2]) ∧ w' = w := by
  go_enter Try.func22, Try.ntmps22
  go_wp2
  go_ret2
  exact ⟨rfl, rfl⟩
set_option maxHeartbeats 8000000 in
set_option maxRecDepth 100000 in
theorem of_any (p : Option Addr) (c : Nat) (xs : List Int) (w : World) (hx : IntsAt w p xs) (hn : xs.length ≤ 1000) :
    Calls Try.prog 22 #[.slice p xs.length c] w fun e w' => ∃ v, e = .returned (.tuple #[v, .int .i64 (lotsE (ofI (upI xs.length) xs))]) ∧ IL w' w.heap.size v ((ofI (upI xs.length) xs).getD []) ∧ Below w.heap.size w w' := by
  have HX := Lib.hid hx
  have HR := Lib.hid (show ofI (upI xs.length) xs = (ofI (upI xs.length) (xs.drop 0)).map ([] ++ ·) by simp)
  generalize hR : ofI (upI xs.length) xs = R at *
  obtain ⟨n, hN⟩ : ∃ n, n = xs.length := ⟨_, rfl⟩
  rw [← hN] at hn HR ⊢
  have HN := Lib.hid hN
  have hmk := make_ints n (by omega)
  clear hx hR hN
  go_enter Try.func22, Try.ntmps22
  go_upto_region 3 with fail
  go_cut [4, 5] from 11 to 16 (fun s4 s5 wx => ∃ a b : Nat, s4 = .slice (some ⟨a, 0, none⟩) n n ∧ s5 = .slice (some ⟨b, 0, none⟩) n n ∧ TwoR n (upI n) [] a b w wx)
  case first =>
    as_aux_lemma =>
      go_region_with (first | (go_at_call 28; refine (upTo_any n hn _).mono ?_; rintro e w1 ⟨rfl, hg1, hb1⟩))
      all_goals go_wp2_with fail
      all_goals go_meet
      all_goals first | exact ⟨_, _, rfl, rfl, two_a (w := w) hn hg1 ((Below.refl _ w).drew.trans hb1)⟩ | exact ⟨_, _, rfl, rfl, two_b hn hg1 hb1⟩
  case rest =>
    as_aux_lemma =>
      obtain ⟨a, b, rfl, rfl, hT⟩ := hcut
      have HT := Lib.hid hT
      have HLT := Lib.hid (upI_length n)
      clear hT
      generalize upI n = U at *
      go_wp2_with fail
      go_loopw [4, 19] (fun v4 vi wr => ∃ (i m : Nat) (left done : List Int), vi = .int .i64 (i : Int) ∧ v4 = .slice (some ⟨a, 0, none⟩) m n ∧ i + m = n ∧ left.length = m ∧ done.length = i ∧ TwoR n left done a b w wr ∧ Hid (R = (ofI left (xs.drop i)).map (done ++ ·))) (fun _ vi _ => n - (RowKit.intOf vi).toNat)
      case atStart => exact ⟨0, n, U, [], by rfl, rfl, by omega, HLT.out, rfl, HT.out, HR⟩
      case round =>
        obtain ⟨i, m, left, done, rfl, rfl, him, hm, hd, hT, hR⟩ := hrel
        rename World => wA
        by_cases hlt : i < n
        · obtain ⟨x, hx⟩ : ∃ x, xs[i]? = some x := ⟨xs[i]'(by have := HN.out; omega), List.getElem?_eq_getElem _⟩
          have hdrop : xs.drop i = x :: xs.drop (i + 1) := by
            obtain ⟨hh, he⟩ := List.getElem?_eq_some_iff.1 hx
            rw [← he]; exact List.drop_eq_getElem_cons hh
          obtain ⟨q, rfl, hq⟩ := (HX.out.below hT.bel) i x hx
          have i1 : (i : Int) < (n : Int) := by omega
          have i0 : (0 : Int) ≤ (i : Int) := by omega
          have hstep : Hid (R = if 0 ≤ x ∧ x < left.length then ((ofI (left.eraseIdx x.toNat) (xs.drop (i + 1))).map (left.getD x.toNat 0 :: ·)).map (done ++ ·) else none) := Lib.hid (by
            rw [hR.out, hdrop, ofI]
            split <;> simp)
          have HT2 := Lib.hid hT
          have HM := Lib.hid hm
          have HD := Lib.hid hd
          clear hx hdrop hR hT hm hd
          by_cases hx0 : x < 0
          · have HE := Lib.hid (show R = none from by rw [hstep.out, if_neg (by omega)])
            have HB := Lib.hid HT2.out.bel
            clear hstep
            go_wp2
            go_ret2
            exact ⟨_, by rw [HE.out]; rfl, by rw [HE.out]; exact IL.nil _ _, HB.out⟩
          · by_cases hxm : x < (m : Int)
            · obtain ⟨k, rfl⟩ : ∃ k : Nat, x = (k : Int) := ⟨x.toNat, by omega⟩
              have hkm : k < m := by omega
              obtain ⟨z, hz⟩ : ∃ z, left[k]? = some z := ⟨left[k]'(by have := HM.out; omega), List.getElem?_eq_getElem _⟩
              have HR3 := Lib.hid (show R = (ofI (left.eraseIdx k) (xs.drop (i + 1))).map ((done ++ [z]) ++ ·) from by
                rw [hstep.out, if_pos ⟨by omega, by have := HM.out; omega⟩, Option.map_map]
                simp only [Int.toNat_natCast]
                rw [show left.getD k 0 = z by simp [List.getD, hz]]
                congr 1; funext l; simp)
              obtain ⟨k1, hk1⟩ : ∃ k1, k1 = k + 1 := ⟨_, rfl⟩
              have e1 : IntKind.i64.wrap ((k : Int) + 1) = (k1 : Int) := by rw [IntKind.wrap_i64]; omega
              have e2 : wrap64 ((k : Int) + 1) = (k1 : Int) := by unfold wrap64; omega
              have k0 : (0 : Int) ≤ (k : Int) := by omega
              have d1 : ¬ (m : Int) ≤ (k : Int) := by omega
              have c2 := HT2.out.ra.cell hz
              have hT4 := HT2.out.tell (by have := HD.out; omega) z
              obtain ⟨y, hy⟩ : ∃ y, (done ++ List.replicate (n - done.length) (0 : Int))[i]? = some y := ⟨_, List.getElem?_eq_getElem (by have := HD.out; simp; omega)⟩
              have c1 := HT2.out.rb.cell hy
              have f1 := HT2.out.rb.free i
              rw [HD.out] at hT4
              have HDel := Lib.hid (del_any a n k left _ hT4.ra (by have := HM.out; omega))
              rw [HM.out, ← hk1] at HDel
              have HT4 := Lib.hid hT4
              have HK1 := Lib.hid hk1
              clear hT4 hy hk1 hstep hz hx0
              go_wp2_with fail
              with_reducible refine HDel.out.mono ?_
              rintro e w3 ⟨rfl, hI, hK⟩
              have HT5 := Lib.hid (HT4.out.erase hI hK)
              clear hI hK c1 f1 c2
              go_wp2
              go_roundw
              case rel => exact ⟨i + 1, m - 1, left.eraseIdx k, done ++ [z], by go_num, by rfl, by omega, by rw [List.length_eraseIdx_of_lt (by have := HM.out; omega), HM.out], by simp [HD.out], HT5.out, HR3⟩
              case measure => simp [RowKit.intOf]; omega
            · have HE := Lib.hid (show R = none from by have := HM.out; rw [hstep.out, if_neg (by omega)])
              have HB := Lib.hid HT2.out.bel
              have d1 : (m : Int) ≤ x := by omega
              clear hstep
              go_wp2
              go_ret2
              exact ⟨_, by rw [HE.out]; rfl, by rw [HE.out]; exact IL.nil _ _, HB.out⟩
        · obtain rfl : i = n := by omega
          have hn0 : left = [] := List.length_eq_zero_iff.1 (by omega)
          have HE := Lib.hid (show R = some done from by
            rw [hR.out, List.drop_of_length_le (by have := HN.out; omega), ofI]; simp)
          have hrb := hT.rb
          rw [hd, Nat.sub_self, List.replicate_zero, List.append_nil] at hrb
          have HB := Lib.hid hT.bel
          have HI := Lib.hid (hrb.list hT.lb)
          rw [hd] at HI
          clear hT hR hm hd hrb
          go_wp2
          go_ret2
          exact ⟨_, by rw [HE.out]; rfl, by rw [HE.out]; exact HI.out, HB.out⟩
end Go.Proofs.Ytdhefefhipdlcaa
