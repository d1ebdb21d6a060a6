/- joustref27.left and without: walked. -/
import Derived.Test.YtdhefefhipdlcaaMxOrder
namespace Go.Proofs.Ytdhefefhipdlcaa
open Go.RowKit Go.Lib

/-- Those of 0 to n - 1 that are not among numbers. -/
def leftI (n : Nat) (xs : List Int) : List Int := (upI n).filter fun i => !xs.contains i
theorem leftI_nil (n : Nat) : leftI n [] = upI n := by simp [leftI]
theorem leftI_snoc (k : Nat) (xs : List Int) : leftI (k + 1) xs = if xs.contains (k : Int) then leftI k xs else leftI k xs ++ [(k : Int)] := by
  unfold leftI
  rw [upI_snoc, List.filter_append]
  cases h : xs.contains (k : Int) <;> simp [List.filter_cons]
  · simpa using h
  · simpa using h
theorem leftI_length (n : Nat) (xs : List Int) : (leftI n xs).length ≤ n := by
  have := List.length_filter_le (fun i => !xs.contains i) (upI n)
  rw [upI_length] at this
  exact this
theorem leftI_none {n : Nat} {xs : List Int} : leftI n xs = [] ↔ ∀ y ∈ upI n, y ∈ xs := by
  unfold leftI
  rw [List.filter_eq_nil_iff]
  simp

theorem take_one {l : List Int} {i : Nat} {x : Int} (h : l[i]? = some x) : l.take (i + 1) = l.take i ++ [x] := by
  rw [List.take_add_one, h]; rfl

set_option maxHeartbeats 8000000 in
set_option maxRecDepth 100000 in
theorem rleft_any (n : Nat) (hn : n ≤ 1000) (p : Option Addr) (c : Nat) (xs : List Int) (w : World) (hx : IntsAt w p xs) (hm : xs.length ≤ maxLen) :
    Calls Try.prog 31 #[.int .i64 (n : Int), .slice p xs.length c] w fun e w' => ∃ v, e = .returned v ∧ IL w' w.heap.size v (leftI n xs) ∧ Below w.heap.size w w' := by
  obtain ⟨i0, hi, hz0, hz1, hz2⟩ := info_parts Try.info_int
  unfold maxLen at hm
  have HX := Lib.hid hx
  obtain ⟨L, hL⟩ : ∃ L, L = xs.length := ⟨_, rfl⟩
  rw [← hL] at hm ⊢
  have HL := Lib.hid hL
  clear hx hL
  go_enter Try.func31, Try.ntmps31
  go_wp2
  go_loopw [5, 6] (fun v vi wr => ∃ (k : Nat), vi = .int .i64 (k : Int) ∧ k ≤ n ∧ Below w.heap.size w wr ∧ IL wr w.heap.size v (leftI k xs)) (fun _ vi _ => n - (RowKit.intOf vi).toNat)
  case atStart => exact ⟨0, by rfl, Nat.zero_le _, Below.refl _ _, IL.nil _ _⟩
  case round =>
    obtain ⟨k, rfl, hk, hbw, hgw⟩ := hrel
    rename World => wA
    by_cases hlt : k < n
    · have HB := Lib.hid hbw
      have HG := Lib.hid hgw
      have i1 : (k : Int) < (n : Int) := by omega
      clear hbw hgw
      go_wp2
      go_loopw [7, 8] (fun vg vi wr => ∃ (j : Nat) (g : Bool), vi = .int .i64 (j : Int) ∧ vg = .bool g ∧ Hid (g = (xs.take j).contains (k : Int)) ∧ j ≤ L ∧ wr = wA) (fun _ vi _ => L - (RowKit.intOf vi).toNat)
      case atStart => exact ⟨0, false, by rfl, rfl, Lib.hid (by simp), Nat.zero_le _, by first | rfl | trivial⟩
      case round =>
        obtain ⟨j, g, rfl, rfl, hg, hj, rfl⟩ := hrel
        rename World => wB
        by_cases hjl : j < L
        · obtain ⟨x, hxj⟩ : ∃ x, xs[j]? = some x := ⟨xs[j]'(by have := HL.out; omega), List.getElem?_eq_getElem _⟩
          have hsn := take_one hxj
          obtain ⟨a, rfl, hac⟩ := (HX.out.below HB.out) j x hxj
          have j1 : (j : Int) < (L : Int) := by omega
          have j0 : (0 : Int) ≤ (j : Int) := by omega
          cases g with
          | true =>
            have HG1 := Lib.hid (show true = (xs.take (j + 1)).contains (k : Int) from by
              rw [hsn]; have := hg.out; simp at this ⊢; exact .inl this)
            clear hxj hsn hg
            go_wp2
            go_roundw
            case rel => exact ⟨j + 1, true, by go_num, by rfl, HG1, by omega, by first | rfl | trivial⟩
            case measure => simp [RowKit.intOf]; omega
          | false =>
            by_cases hxk : x = (k : Int)
            · have q1 : (x == (k : Int)) = true := by simp [hxk]
              have HG1 := Lib.hid (show true = (xs.take (j + 1)).contains (k : Int) from by
                rw [hsn, hxk]; simp)
              clear hxj hsn hg hxk
              go_wp2
              go_roundw
              case rel => exact ⟨j + 1, true, by go_num, by rfl, HG1, by omega, by first | rfl | trivial⟩
              case measure => simp [RowKit.intOf]; omega
            · have q1 : (x == (k : Int)) = false := by simp [hxk]
              have HG1 := Lib.hid (show false = (xs.take (j + 1)).contains (k : Int) from by
                rw [hsn]; have := hg.out; simp at this ⊢; exact ⟨this, fun e => hxk e.symm⟩)
              clear hxj hsn hg hxk
              go_wp2
              go_roundw
              case rel => exact ⟨j + 1, false, by go_num, by rfl, HG1, by omega, by first | rfl | trivial⟩
              case measure => simp [RowKit.intOf]; omega
        · obtain rfl : j = L := by omega
          have hgx : g = xs.contains (k : Int) := by have := hg.out; rwa [List.take_of_length_le (by have := HL.out; omega)] at this
          have hsn := leftI_snoc k xs
          rw [← hgx] at hsn
          cases g with
          | true =>
            have HS := Lib.hid (show leftI (k + 1) xs = leftI k xs from by simpa using hsn)
            clear hgx hsn hg
            go_wp2
            go_roundw
            case rel => exact ⟨k + 1, by go_num, by omega, HB.out, by rw [HS.out]; exact HG.out⟩
            case measure => simp [RowKit.intOf]; omega
          | false =>
            have hs : leftI (k + 1) xs = leftI k xs ++ [(k : Int)] := by simpa using hsn
            have hll := leftI_length k xs
            have hgw1 := HG.out.below ((Below.refl _ wB).alloc (Nat.le_refl _) (.cells #[iv (k : Int)] 3))
            have hsz := HB.out.size
            generalize hql : leftI k xs = ql at *
            obtain ⟨M, hM⟩ : ∃ M, M = ql.length := ⟨_, rfl⟩
            unfold IL at hgw1
            rw [← hM] at hgw1 hll
            clear hgx hsn hg HG
            go_wp2_with (at_builtin; refine wpList_append_own _ rfl _ _ 32 rfl w.heap.size 3 i0 (.int .i64 0) 1 8 Try.underlying32 hi hz0 hz1 hz2 rfl (by decide) _ _ _ rfl hgw1 ⟨wB.heap.size, 0, none⟩ 1 1 [iv (k : Int)] rfl rfl ?c2 ?c3 ?c4 ?c5 ?c6 ?_)
            case c2 => exact cell_one_new _ _ _
            case c3 => intro u hu; simp at hu; subst hu; rfl
            case c4 => unfold maxLen; omega
            case c5 => omega
            case c6 => simp; omega
            intro v' w9 hown' hgrow _
            have hown2 : IL w9 w.heap.size v' (ql ++ [(k : Int)]) := IL.snoc (by first | exact hown' | (rw [← hM]; exact hown'))
            have hb9 := (HB.out.alloc hsz (.cells #[iv (k : Int)] 3)).grown hgrow (by simp; omega) (IL.block (xs := ql) (by unfold IL; first | exact hgw1 | (rw [← hM]; exact hgw1)))
            have HO := Lib.hid hown2
            have HB9 := Lib.hid hb9
            have HS := Lib.hid hs
            clear hown' hgrow hown2 hb9 hs
            go_wp2
            go_roundw
            case rel => exact ⟨k + 1, by go_num, by omega, HB9.out, by rw [HS.out]; exact HO.out⟩
            case measure => simp [RowKit.intOf]; omega
    · obtain rfl : k = n := by omega
      have HB := Lib.hid hbw
      have HG := Lib.hid hgw
      clear hbw hgw
      go_wp2
      go_ret
      exact ⟨_, rfl, HG.out, HB.out⟩

set_option maxHeartbeats 4000000 in
set_option maxRecDepth 100000 in
theorem rwithout_any (g cap k : Nat) (xs : List Int) (w : World) (h : IG w g cap xs) (hk : k < xs.length) (hf : xs.length ≤ 1000) :
    Calls Try.prog 32 #[.slice (some ⟨g, 0, none⟩) xs.length cap, .int .i64 (k : Int)] w fun e w' => ∃ v, e = .returned v ∧ IL w' w.heap.size v (xs.eraseIdx k) ∧ Below w.heap.size w w' := by
  obtain ⟨i0, hi, hz0, hz1, hz2⟩ := info_parts Try.info_int
  obtain ⟨hl1, hl2⟩ := h.le
  unfold maxLen at hl2
  have HG := Lib.hid h
  obtain ⟨m, hm⟩ : ∃ m, m = xs.length := ⟨_, rfl⟩
  rw [← hm] at hk hf hl1 ⊢
  have k0 : (0 : Int) ≤ (k : Int) := by omega
  have k1 : (k : Int) ≤ (cap : Int) := by omega
  have hnil : w.ownsRow w.heap.size 3 1 (.slice none 0 0) 0 [] := IL.nil w _
  obtain ⟨k1n, hk1⟩ : ∃ k1n, k1n = k + 1 := ⟨_, rfl⟩
  have e1 : IntKind.i64.wrap ((k : Int) + 1) = (k1n : Int) := by rw [IntKind.wrap_i64]; omega
  have e2 : wrap64 ((k : Int) + 1) = (k1n : Int) := by unfold wrap64; omega
  have k3 : (0 : Int) ≤ (k1n : Int) := by omega
  have k4 : (k1n : Int) ≤ (m : Int) := by omega
  have HK1 := Lib.hid hk1
  have HM := Lib.hid hm
  clear hk1 hm h
  go_enter Try.func32, Try.ntmps32
  go_wp2_with (at_builtin; refine wpList_append_own _ rfl _ _ 32 rfl w.heap.size 3 i0 (.int .i64 0) 1 8 Try.underlying32 hi hz0 hz1 hz2 rfl (by decide) _ _ _ rfl hnil ⟨g, 0, none⟩ k cap ((xs.take k).map iv) rfl ?c1 ?c2 ?c3 ?c4 ?c5 ?c6 ?_)
  case c1 => have := HM.out; simp; omega
  case c2 =>
    intro j u hu
    rw [List.getElem?_map] at hu
    cases hj : (xs.take k)[j]? with
    | none => rw [hj] at hu; cases hu
    | some x =>
      rw [hj] at hu; cases hu
      have hjk : j < k := by have := (List.getElem?_eq_some_iff.1 hj).1; rw [List.length_take] at this; omega
      rw [List.getElem?_take_of_lt hjk] at hj
      rw [add_iv]; exact HG.out.cell hj
  case c3 => intro u hu; obtain ⟨x, -, rfl⟩ := List.mem_map.1 hu; rfl
  case c4 => unfold maxLen; omega
  case c5 => omega
  case c6 => omega
  intro v' w9 hown' hgrow _
  have H9 := Lib.hid (show w9.ownsRow w.heap.size 3 1 v' k ((xs.take k).map iv) from by simpa using hown')
  have HB9 := Lib.hid ((Below.refl w.heap.size w).grown hgrow (Nat.le_refl _) (fun j e => by cases e))
  have HG9 := Lib.hid (HG.out.same (hgrow.block g HG.out.lt (fun e => by cases e)))
  have HBK := Lib.hid (show ∀ j, v'.ownBlock = some j → w.heap.size ≤ j from IL.block (xs := xs.take k) (w := w9) (by
    unfold IL
    have : (xs.take k).length = k := by have := HM.out; simp; omega
    rw [this]; exact H9.out))
  clear hown' hgrow
  by_cases hc : cap = k1n
  · obtain rfl : m = k1n := by omega
    obtain rfl : cap = m := by omega
    go_wp2_with (at_builtin; refine wpList_append_own _ rfl _ _ 32 rfl w.heap.size 3 i0 (.int .i64 0) 1 8 Try.underlying32 hi hz0 hz1 hz2 rfl (by decide) _ _ _ rfl H9.out ⟨g, 0, none⟩ 0 0 [] rfl ?f1 ?f2 ?f3 ?f4 ?f5 ?f6 ?_)
    case f4 => unfold maxLen; omega
    case f5 => omega
    case f6 => exact HB9.out.size
    intro v2 w10 hown2 hgrow2 _
    have HB10 := Lib.hid (HB9.out.grown hgrow2 HB9.out.size HBK.out)
    have HE := Lib.hid (show IL w10 w.heap.size v2 (xs.eraseIdx k) from by
      have he := List.eraseIdx_eq_take_drop_succ xs k
      have hd : xs.drop (k + 1) = [] := List.drop_of_length_le (by have := HK1.out; have := HM.out; omega)
      have hlen : (xs.eraseIdx k).length = k := by
        have := HK1.out; have := HM.out
        rw [List.length_eraseIdx_of_lt (by omega)]; omega
      unfold IL
      rw [hlen, he, hd, List.append_nil]
      simpa [List.map_take] using hown2)
    clear hown2 hgrow2
    go_wp2
    go_ret
    exact ⟨_, rfl, HE.out, HB10.out⟩
  · go_wp2_with (at_builtin; refine wpList_append_own _ rfl _ _ 32 rfl w.heap.size 3 i0 (.int .i64 0) 1 8 Try.underlying32 hi hz0 hz1 hz2 rfl (by decide) _ _ _ rfl H9.out ⟨g, k1n, none⟩ (m - k1n) (cap - k1n) ((xs.drop k1n).map iv) rfl ?d1 ?d2 ?d3 ?d4 ?d5 ?d6 ?_)
    case d1 => have := HM.out; simp; omega
    case d2 =>
      intro j u hu
      rw [List.getElem?_map, List.getElem?_drop] at hu
      cases hj : xs[k1n + j]? with
      | none => rw [hj] at hu; cases hu
      | some x =>
        rw [hj] at hu; cases hu
        have e : (⟨g, k1n, none⟩ : Addr).add j = ⟨g, k1n + j, none⟩ := by
          unfold Addr.add
          by_cases hz : j = 0 <;> simp [hz]
        rw [e]
        exact IG.cell (HG9.out) hj
    case d3 => intro u hu; obtain ⟨x, -, rfl⟩ := List.mem_map.1 hu; rfl
    case d4 => unfold maxLen; omega
    case d5 => omega
    case d6 => exact HB9.out.size
    intro v2 w10 hown2 hgrow2 _
    have HB10 := Lib.hid (HB9.out.grown hgrow2 HB9.out.size HBK.out)
    have HE := Lib.hid (show IL w10 w.heap.size v2 (xs.eraseIdx k) from by
      have he := List.eraseIdx_eq_take_drop_succ xs k
      rw [← HK1.out] at he
      have hlen : (xs.eraseIdx k).length = k + (m - k1n) := by
        have := HK1.out; have := HM.out
        rw [List.length_eraseIdx_of_lt (by omega)]; omega
      unfold IL
      rw [hlen, he, List.map_append]
      simpa [List.map_take, List.map_drop] using hown2)
    clear hown2 hgrow2
    go_wp2
    go_ret
    exact ⟨_, rfl, HE.out, HB10.out⟩
end Go.Proofs.Ytdhefefhipdlcaa
