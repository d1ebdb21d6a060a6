import Derived.Test.YtlbbabojejimpaaQEvOf
import Derived.Test.YtlbbabojejimpaaQTbInAny
/- eval.Count: the pieces of a Sel, of a table that may be. -/
namespace Go.Proofs.Ytlbbabojejimpaa
open Go.RowKit Go.Lib

set_option maxHeartbeats 1000000 in
theorem eother_any (h : Nat) (w : World) (hh : h ≤ 1) : Calls Try.prog 35 #[.int .u8 h] w fun e w' => e = .returned (.int .u8 (1 - h : Nat)) ∧ w' = w := by
  rcases (show h = 0 ∨ h = 1 by omega) with rfl | rfl
  all_goals
    go_enter Try.func35, Try.ntmps35
    go_wp2_with fail
    go_ret
    exact ⟨rfl, rfl⟩
/-- Those of a list that are of a Sel. -/
def ofsL (xs : List Cd) (ps : List Pc) (who : Nat) (i : Int) (s : Sl) (l : List Nat) : List Nat := l.filter fun j => ofI xs ps who i s j
def cntL (xs : List Cd) (ps : List Pc) (who : Nat) (i : Int) (s : Sl) : List Nat := ofsL xs ps who i s (idsIn ps who s.zone ++ idsIn ps (1 - who) s.zone)
def CntEnds (l : List Nat) (w : World) (e : Ending) (w' : World) : Prop := (∃ v m, e = .returned v ∧ NatsAt w' w.heap.size v m ∧ m.Perm l) ∧ Below w.heap.size w w'
theorem ofsL_next {xs : List Cd} {ps : List Pc} {who : Nat} {i : Int} {s : Sl} {l : List Nat} {k j : Nat} (h : l[k]? = some j) : ofsL xs ps who i s (l.take (k + 1)) = ofsL xs ps who i s (l.take k) ++ (if ofI xs ps who i s j = true then [j] else []) := by
  unfold ofsL
  rw [List.take_add_one, h, List.filter_append]
  congr 1
  simp only [Option.toList_some, List.filter_cons, List.filter_nil]
theorem ofsL_len {xs : List Cd} {ps : List Pc} {who : Nat} {i : Int} {s : Sl} (l : List Nat) : (ofsL xs ps who i s l).length ≤ l.length := List.length_filter_le _ _
theorem nats_base {w : World} {b c : Nat} {v : Value} {l : List Nat} (h : NatsAt w b v l) (hc : c ≤ b) : NatsAt w c v l := by
  refine ⟨h.1, ?_⟩
  rcases h.2 with h0 | ⟨g, cap, cur, hv, hbg, r⟩
  · exact .inl h0
  · exact .inr ⟨g, cap, cur, hv, Nat.le_trans hc hbg, r⟩
/-- A list's numbers lie in a block that is not the one that grows. -/
def LL (w : World) (L : List Nat) (g : Nat) (v : Value) : Prop := L ≠ [] → g < w.heap.size ∧ v.ownBlock ≠ some g ∧ ∀ (j x : Nat), L[j]? = some x → w.cell? ⟨g, j, none⟩ = some (.int .i64 x)
theorem cell_same {w w' : World} {g j : Nat} (h : w'.heap[g]? = w.heap[g]?) : w'.cell? ⟨g, j, none⟩ = w.cell? ⟨g, j, none⟩ := by
  simp only [World.cell?, h]
theorem LL.below {w w' : World} {L : List Nat} {g : Nat} {v : Value} (h : LL w L g v) (hb : Below w.heap.size w w') : LL w' L g v := fun hL => by
  obtain ⟨h1, h2, h3⟩ := h hL
  exact ⟨Nat.lt_of_lt_of_le h1 hb.size, h2, fun j x hx => (cell_same (hb.block _ h1)).trans (h3 j x hx)⟩
theorem LL.grown {w w' : World} {L : List Nat} {g g4 n c : Nat} {v : Value} (h : LL w L g v) (hg : w.grownBy w' v.ownBlock) (hv : v.ownBlock = some g4 ∨ g4 = w.heap.size) : LL w' L g (.slice (some ⟨g4, 0, none⟩) n c) := fun hL => by
  obtain ⟨h1, h2, h3⟩ := h hL
  refine ⟨Nat.lt_of_lt_of_le h1 hg.size, fun he => ?_, fun j x hx => (cell_same (hg.block _ h1 fun h => h2 h.symm)).trans (h3 j x hx)⟩
  simp only [Value.ownBlock, Option.some.injEq] at he
  rcases hv with hv | hv
  · exact h2 (by rw [hv, he])
  · omega
/-- What is told behind so many players. -/
def TwoL (xs : List Cd) (ps : List Pc) (who : Nat) (i : Int) (s : Sl) (k : Nat) (l : List Nat) : Prop :=
  (k = 0 → l = []) ∧ (k = 1 → l.Perm (ofsL xs ps who i s (idsIn ps who s.zone))) ∧ (k ≥ 2 → l.Perm (cntL xs ps who i s)) ∧ l.length ≤ 144 * k

set_option maxHeartbeats 8000000 in
set_option maxRecDepth 100000 in
theorem count_any (t : Tb) (xs : List Cd) (ps : List Pc) (who : Nat) (i : Int) (s : Sl) (w : World) (hT : TabIn w t xs ps) (hL : LifeOk t) (hG : GoodB xs ps) (hw : who ≤ 1) :
    Calls Try.prog 25 #[.agg t.row, .int .u8 who, .int .i64 i, .agg #[.int .u8 s.side, .int .u8 s.zone, .int .u8 s.kind]] w (CntEnds (cntL xs ps who i s) w) := by
  obtain ⟨i0, hi0, hz0, hz1, hz2⟩ := info_parts int_info
  have hpn := hG.few
  have hin := Lib.hid fun (h : Nat) (W : World) (hb : Below w.heap.size w W) => bin_any t xs ps h s.zone W (hT.below hb) hL hG
  have hof := Lib.hid fun (j : Nat) (hj : j < ps.length) (W : World) (hb : Below w.heap.size w W) => mofi_any t xs ps i j who s W (hT.below hb) hL hG hj hw
  have hoth := Lib.hid fun W => eother_any who W hw
  have hw1 : ¬ (who : Int) > 1 := by omega
  have hix0 : ∀ W : World, (Instr.index 82 (.agg #[.int .u8 who, .int .u8 (1 - who : Nat)]) (.int .i64 0)).run Try.prog W = .ok (.int .u8 who) W := fun W => by kernel_rfl
  have hix1 : ∀ W : World, (Instr.index 82 (.agg #[.int .u8 who, .int .u8 (1 - who : Nat)]) (.int .i64 1)).run Try.prog W = .ok (.int .u8 (1 - who : Nat)) W := fun W => by kernel_rfl
  have HPN : Hid (∀ h, (idsIn ps h s.zone).length ≤ 144) := Lib.hid fun h => by
    rw [idsIn_len]
    exact Nat.le_trans List.countP_le_length hpn
  have HLT : Hid (∀ h, ∀ j ∈ idsIn ps h s.zone, j < ps.length) := Lib.hid fun h j hj => by
    obtain ⟨p, hp, -⟩ := idsIn_mem.1 hj
    exact (List.getElem?_eq_some_iff.1 hp).1
  obtain ⟨sl, hsl⟩ : ∃ sl, sl = s := ⟨_, rfl⟩
  have HSL := Lib.hid hsl
  obtain ⟨sd, sz, sk⟩ := s
  dsimp only at hin hof HPN HLT ⊢
  rw [← hsl]
  have hof : Hid (∀ (j : Nat), j < ps.length → ∀ (W : World), Below w.heap.size w W → Calls Try.prog 37 #[.agg t.row, .int .u8 who, .int .i64 i, .agg #[.int .u8 sd, .int .u8 sz, .int .u8 sk], .int .i64 (j : Int)] W fun e w' => e = .returned (.bool (ofI xs ps who i sl j)) ∧ Below W.heap.size W w') := Lib.hid (by rw [hsl]; exact hof.out)
  have HZN : Hid (sl.zone = sz) := Lib.hid (by rw [hsl])
  clear hT hL hG hw hpn hsl
  obtain ⟨w0, hw0⟩ : ∃ w0, w0 = (w.alloc (.cells t.row 28)).alloc (.cells #[.int .u8 sd, .int .u8 sz, .int .u8 sk] 30) := ⟨_, rfl⟩
  have hb0 : Below w.heap.size w w0 := by rw [hw0]; exact ((Below.refl _ _).alloc (Nat.le_refl _) _).alloc (by simp) _
  have hx0 : w0.heap[w.heap.size]? = some (.cells t.row 28 (0, 0)) := by rw [hw0]; exact heap_older (heap_alloc_new _ _)
  have hy0 : w0.heap[w.heap.size + 1]? = some (.cells #[.int .u8 sd, .int .u8 sz, .int .u8 sk] 30 (0, 0)) := by rw [hw0]; exact heap_newer _ _ _ (by simp)
  have HB0 := Lib.hid hb0
  have HX0 := Lib.hid hx0
  have HY0 := Lib.hid hy0
  have HW0 := Lib.hid hw0
  clear hb0 hx0 hy0 hw0 HSL
  simp only [Tb.row] at *
  go_enter Try.func25, Try.ntmps25
  go_wp2_with fail
  rw [← HW0.out]
  refine (hoth.out w0).mono ?_
  rintro e w1 ⟨rfl, rfl⟩
  go_wp2_with fail
  go_loopw [9, 20] (fun vl vk wr => ∃ (k : Nat) (a : Option Addr) (n c : Nat) (l : List Nat), vk = .int .i64 k ∧ k ≤ 2 ∧ vl = .slice a n c ∧ n = l.length ∧ NatsAt wr w1.heap.size (.slice a n c) l ∧ Below w1.heap.size w1 wr ∧ Hid (TwoL xs ps who i sl k l)) (fun _ vk _ => 2 - (RowKit.intOf vk).toNat)
  case atStart => exact ⟨0, none, 0, 0, [], by rfl, by omega, rfl, rfl, World.ownsRow_nil _ _ _ _, Below.refl _ _, Lib.hid ⟨fun _ => rfl, fun h => by omega, fun h => by omega, by simp⟩⟩
  case round =>
    obtain ⟨k, a, n, c, l, rfl, hk, rfl, hn, hown, hbw, htw⟩ := hrel
    rename World => wA
    have HBW := Lib.hid hbw
    have HBw : Hid (Below w.heap.size w wA) := Lib.hid (HB0.out.trans (hbw.mono HB0.out.size))
    have HXA := Lib.hid ((hbw.block _ (heap_lt HX0.out)).trans HX0.out)
    have HYA := Lib.hid ((hbw.block _ (heap_lt HY0.out)).trans HY0.out)
    have HO := Lib.hid hown
    have HNL := Lib.hid hn
    clear hbw hown hn
    by_cases hlt : k < 2
    · rcases (show k = 0 ∨ k = 1 by omega) with rfl | rfl
      · -- the player who
        have hH : who ≤ 1 := by omega
        have y0 := cell_blk (i := 0) HXA.out
        have y1 := cell_blk (i := 1) HXA.out
        have y2 := cell_blk (i := 2) HXA.out
        have y3 := cell_blk (i := 3) HXA.out
        have y4 := cell_blk (i := 4) HXA.out
        have y5 := cell_blk (i := 5) HXA.out
        have y6 := cell_blk (i := 6) HXA.out
        have y7 := cell_blk (i := 7) HXA.out
        have y8 := cell_blk (i := 8) HXA.out
        have y9 := cell_blk (i := 9) HXA.out
        simp at y0 y1 y2 y3 y4 y5 y6 y7 y8 y9
        have z0 := cell_blk (i := 0) HYA.out
        have z1 := cell_blk (i := 1) HYA.out
        have z2 := cell_blk (i := 2) HYA.out
        simp at z0 z1 z2
        have hltA := heap_lt HXA.out
        go_wp2_with fail
        refine (hin.out (who) _ HBw.out).mono ?_
        rintro e w2 ⟨⟨v, L, rfl, hvL, hpL, -⟩, b2⟩
        have hLw := hvL.cell
        obtain ⟨⟨aL, cL, rfl⟩, hLc⟩ := hLw
        have HB2 := Lib.hid (HBW.out.trans (b2.mono HBW.out.size))
        have HX2 := Lib.hid ((b2.block _ (heap_lt HXA.out)).trans HXA.out)
        have HY2 := Lib.hid ((b2.block _ (heap_lt HYA.out)).trans HYA.out)
        have HO2 := Lib.hid (HO.out.below b2)
        obtain ⟨gL, hgL⟩ : ∃ gL : Nat, L ≠ [] → aL = some ⟨gL, 0, none⟩ ∧ LL w2 L gL (.slice a n c) := by
          by_cases hL0 : L = []
          · exact ⟨0, fun h => absurd hL0 h⟩
          · obtain ⟨y, hy⟩ : ∃ y, L[0]? = some y := ⟨_, List.getElem?_eq_getElem (List.length_pos_iff.2 hL0)⟩
            obtain ⟨gL, hb, hge, hlt, ⟨c', hc'⟩, -⟩ := hLc 0 y hy
            simp only [Value.slice.injEq] at hc'
            refine ⟨gL, fun _ => ⟨hc'.1, fun _ => ⟨hlt, fun hne => ?_, fun j x hx => ?_⟩⟩⟩
            · have := (World.ownsRow.lt HO.out gL hne).2
              omega
            · obtain ⟨g', hb', -, -, -, hc⟩ := hLc j x hx
              rw [hb] at hb'
              cases hb'
              exact hc
        obtain ⟨ln, hln⟩ : ∃ ln, L.length = ln := ⟨_, rfl⟩
        rw [hln]
        have hl144 : ln ≤ 144 := by rw [← hln, hpL.length_eq]; exact HPN.out (who)
        have hn288 : n ≤ 144 * 0 := by rw [HNL.out]; exact htw.out.2.2.2
        have HLN := Lib.hid hln
        have HGL := Lib.hid hgL
        have HPL := Lib.hid hpL
        have HLJ : Hid (∀ j ∈ L, j < ps.length) := Lib.hid fun j hj => HLT.out (who) j (hpL.mem_iff.1 hj)
        have HTW := htw
        clear hvL hpL hLc b2 hgL hln y0 y1 y2 y3 y4 y5 y6 y7 y8 y9 z0 z1 z2 htw hltA
        go_wp2_with fail
        go_loopw [9, 29] (fun vl vi wr => ∃ (j : Nat) (a : Option Addr) (n c : Nat), vi = .int .i64 j ∧ j ≤ ln ∧ vl = .slice a n c ∧ n = (l ++ ofsL xs ps who i sl (L.take j)).length ∧ NatsAt wr w1.heap.size (.slice a n c) (l ++ ofsL xs ps who i sl (L.take j)) ∧ Below w1.heap.size w1 wr ∧ Hid (LL wr L gL (.slice a n c))) (fun _ vi _ => ln - (RowKit.intOf vi).toNat)
        case atStart => exact ⟨0, a, n, c, by rfl, by omega, rfl, by simp [ofsL, HNL.out], by simpa [ofsL] using HO2.out, HB2.out, Lib.hid fun h => (HGL.out h).2 h⟩
        case round =>
          obtain ⟨j, a', n', c', rfl, hj, rfl, hn', hown', hbw', hLL⟩ := hrel
          rename World => wC
          have HBC := Lib.hid hbw'
          have HBCw : Hid (Below w.heap.size w wC) := Lib.hid (HB0.out.trans (hbw'.mono HB0.out.size))
          have HXC := Lib.hid ((hbw'.block _ (heap_lt HX0.out)).trans HX0.out)
          have HYC := Lib.hid ((hbw'.block _ (heap_lt HY0.out)).trans HY0.out)
          have HOC := Lib.hid hown'
          have HNC := Lib.hid hn'
          clear hbw' hown'
          by_cases hjl : j < ln
          · obtain ⟨x, hx⟩ : ∃ x, L[j]? = some x := ⟨_, List.getElem?_eq_getElem (by rw [HLN.out]; exact hjl)⟩
            have hLne : L ≠ [] := fun h => by rw [h] at hx; simp at hx
            obtain ⟨rfl, -⟩ := HGL.out hLne
            have hxl := HLJ.out x (List.mem_of_getElem? hx)
            have hcx := (hLL.out hLne).2.2 j x hx
            have hofx := Lib.hid (hof.out x hxl)
            have HNX := Lib.hid (ofsL_next (xs := xs) (ps := ps) (who := who) (i := i) (s := sl) hx)
            have hn2 : n' ≤ 144 * 0 + 144 := by
              rw [hn', List.length_append]
              have h1 := HTW.out.2.2.2
              have h2 := ofsL_len (xs := xs) (ps := ps) (who := who) (i := i) (s := sl) (L.take j)
              rw [List.length_take] at h2
              omega
            have y0 := cell_blk (i := 0) HXC.out
            have y1 := cell_blk (i := 1) HXC.out
            have y2 := cell_blk (i := 2) HXC.out
            have y3 := cell_blk (i := 3) HXC.out
            have y4 := cell_blk (i := 4) HXC.out
            have y5 := cell_blk (i := 5) HXC.out
            have y6 := cell_blk (i := 6) HXC.out
            have y7 := cell_blk (i := 7) HXC.out
            have y8 := cell_blk (i := 8) HXC.out
            have y9 := cell_blk (i := 9) HXC.out
            simp at y0 y1 y2 y3 y4 y5 y6 y7 y8 y9
            have z0 := cell_blk (i := 0) HYC.out
            have z1 := cell_blk (i := 1) HYC.out
            have z2 := cell_blk (i := 2) HYC.out
            simp at z0 z1 z2
            have k0 : (0 : Int) ≤ (j : Int) := by omega
            have k1 : (j : Int) < (ln : Int) := by omega
            obtain ⟨r, hr⟩ : ∃ r, ofI xs ps who i sl x = r := ⟨_, rfl⟩
            rw [hr] at hofx HNX
            clear hx hr hn' hxl
            go_wp2_with fail
            refine (hofx.out _ HBCw.out).mono ?_
            rintro e w3 ⟨rfl, b3⟩
            have HB3 := Lib.hid (HBC.out.trans (b3.mono HBC.out.size))
            have HO3 := Lib.hid (HOC.out.below b3)
            have HL3 := Lib.hid (hLL.out.below b3)
            clear b3 y0 y1 y2 y3 y4 y5 y6 y7 y8 y9 z0 z1 z2 hcx hLL
            cases r with
            | true =>
              have HNX := Lib.hid (show ofsL xs ps who i sl (L.take (j + 1)) = ofsL xs ps who i sl (L.take j) ++ [x] from by have := HNX.out; simpa using this)
              have HAL := Lib.hid (HB3.out.alloc HB3.out.size (.cells #[.int .i64 x] 3))
              have HOA : Hid ((w3.alloc (.cells #[.int .i64 x] 3)).ownsRow w1.heap.size 3 1 (.slice a' n' c') n' ((l ++ ofsL xs ps who i sl (L.take j)).map idV)) := Lib.hid (by
                have := HO3.out.below ((Below.refl _ _).alloc (Nat.le_refl _) (.cells #[.int .i64 x] 3))
                unfold NatsAt at this
                rwa [← HNC.out] at this)
              have HBK : Hid (∀ j, (Value.slice a' n' c').ownBlock = some j → w1.heap.size ≤ j) := Lib.hid fun j hj => (World.ownsRow.lt HOA.out j hj).1
              have HLA := Lib.hid (HL3.out.below ((Below.refl _ _).alloc (Nat.le_refl _) (.cells #[.int .i64 x] 3)))
              go_wp2_with (at_builtin; (refine wpList_append_lies _ rfl (.tmp 39) (.tmp 41) 65 rfl w1.heap.size 3 i0 _ 1 8 Try.underlying65 hi0 hz0 hz1 hz2 rfl (by omega) _ n' ((l ++ ofsL xs ps who i sl (L.take j)).map idV) rfl HOA.out ⟨w3.heap.size, 0, none⟩ 1 1 [.int .i64 x] rfl rfl (World.news_of_block (cs := #[.int .i64 x]) (t := 3) (fr := (0, 0)) (heap_alloc_new _ _)) (by simp [Value.oneCell']) (by omega) (by unfold maxLen; omega) (by omega) HAL.out.size _ rfl ?_; intro g4 cap w5 hown4 hgrow4 hat4 hlt4))
              have hB5 : Below w1.heap.size w1 w5 := HAL.out.grown hgrow4 HAL.out.size (fun j hj => HBK.out j hj)
              have hl2 : (l ++ ofsL xs ps who i sl (L.take (j + 1))).length = n' + 1 := by
                rw [HNX.out, ← List.append_assoc, List.length_append, ← HNC.out]; rfl
              have ho5 : NatsAt w5 w1.heap.size (.slice (some ⟨g4, 0, none⟩) (n' + 1) cap) (l ++ ofsL xs ps who i sl (L.take (j + 1))) := by
                show World.ownsRow _ _ _ _ _ _ _
                rw [hl2, HNX.out, ← List.append_assoc, List.map_append]
                exact hown4
              have HL5 := Lib.hid (HLA.out.grown (n := n' + 1) (c := cap) hgrow4 hat4)
              have HO5 := Lib.hid ho5
              have HB5 := Lib.hid hB5
              have HL2 := Lib.hid hl2
              clear ho5 hB5 hl2 hown4 hgrow4 hat4
              go_wp2_with fail
              go_roundw
              case rel => exact ⟨j + 1, _, n' + 1, cap, by go_num, by omega, rfl, HL2.out.symm, HO5.out, HB5.out, HL5⟩
              case measure => simp [RowKit.intOf]; omega
            | false =>
              have HNX := Lib.hid (show ofsL xs ps who i sl (L.take (j + 1)) = ofsL xs ps who i sl (L.take j) from by have := HNX.out; simpa using this)
              go_wp2_with fail
              go_roundw
              case rel => exact ⟨j + 1, a', n', c', by go_num, by omega, rfl, by rw [HNX.out]; exact HNC.out, by rw [HNX.out]; exact HO3.out, HB3.out, HL3⟩
              case measure => simp [RowKit.intOf]; omega
          · obtain rfl : j = ln := by omega
            have htk : L.take j = L := List.take_of_length_le (by rw [HLN.out]; exact Nat.le_refl _)
            have HO4 : Hid (NatsAt wC w1.heap.size (.slice a' n' c') (l ++ ofsL xs ps who i sl L)) := Lib.hid (by rw [← htk]; exact HOC.out)
            have HN4 : Hid (n' = (l ++ ofsL xs ps who i sl L).length) := Lib.hid (by rw [hn', htk])
            have HT4 : Hid (TwoL xs ps who i sl (0 + 1) (l ++ ofsL xs ps who i sl L)) := Lib.hid (by
              have hPL : (ofsL xs ps who i sl L).Perm (ofsL xs ps who i sl (idsIn ps (who) sl.zone)) := by
                rw [HZN.out]
                exact HPL.out.filter _
              refine ⟨fun h => by omega, fun h => ?_, fun h => ?_, ?_⟩
              · rw [HTW.out.1 rfl, List.nil_append]; exact hPL
              · omega
              · rw [List.length_append]
                have h1 := HTW.out.2.2.2
                have h2 := ofsL_len (xs := xs) (ps := ps) (who := who) (i := i) (s := sl) L
                rw [HLN.out] at h2
                omega)
            clear hn' hLL htk HOC
            go_wp2_with fail
            go_roundw
            case rel => exact ⟨0 + 1, a', n', c', _, by go_num, by omega, rfl, HN4.out, HO4.out, HBC.out, HT4⟩
            case measure => simp [RowKit.intOf]
      · -- the player 1 - who
        have hH : 1 - who ≤ 1 := by omega
        have y0 := cell_blk (i := 0) HXA.out
        have y1 := cell_blk (i := 1) HXA.out
        have y2 := cell_blk (i := 2) HXA.out
        have y3 := cell_blk (i := 3) HXA.out
        have y4 := cell_blk (i := 4) HXA.out
        have y5 := cell_blk (i := 5) HXA.out
        have y6 := cell_blk (i := 6) HXA.out
        have y7 := cell_blk (i := 7) HXA.out
        have y8 := cell_blk (i := 8) HXA.out
        have y9 := cell_blk (i := 9) HXA.out
        simp at y0 y1 y2 y3 y4 y5 y6 y7 y8 y9
        have z0 := cell_blk (i := 0) HYA.out
        have z1 := cell_blk (i := 1) HYA.out
        have z2 := cell_blk (i := 2) HYA.out
        simp at z0 z1 z2
        have hltA := heap_lt HXA.out
        go_wp2_with fail
        refine (hin.out (1 - who) _ HBw.out).mono ?_
        rintro e w2 ⟨⟨v, L, rfl, hvL, hpL, -⟩, b2⟩
        have hLw := hvL.cell
        obtain ⟨⟨aL, cL, rfl⟩, hLc⟩ := hLw
        have HB2 := Lib.hid (HBW.out.trans (b2.mono HBW.out.size))
        have HX2 := Lib.hid ((b2.block _ (heap_lt HXA.out)).trans HXA.out)
        have HY2 := Lib.hid ((b2.block _ (heap_lt HYA.out)).trans HYA.out)
        have HO2 := Lib.hid (HO.out.below b2)
        obtain ⟨gL, hgL⟩ : ∃ gL : Nat, L ≠ [] → aL = some ⟨gL, 0, none⟩ ∧ LL w2 L gL (.slice a n c) := by
          by_cases hL0 : L = []
          · exact ⟨0, fun h => absurd hL0 h⟩
          · obtain ⟨y, hy⟩ : ∃ y, L[0]? = some y := ⟨_, List.getElem?_eq_getElem (List.length_pos_iff.2 hL0)⟩
            obtain ⟨gL, hb, hge, hlt, ⟨c', hc'⟩, -⟩ := hLc 0 y hy
            simp only [Value.slice.injEq] at hc'
            refine ⟨gL, fun _ => ⟨hc'.1, fun _ => ⟨hlt, fun hne => ?_, fun j x hx => ?_⟩⟩⟩
            · have := (World.ownsRow.lt HO.out gL hne).2
              omega
            · obtain ⟨g', hb', -, -, -, hc⟩ := hLc j x hx
              rw [hb] at hb'
              cases hb'
              exact hc
        obtain ⟨ln, hln⟩ : ∃ ln, L.length = ln := ⟨_, rfl⟩
        rw [hln]
        have hl144 : ln ≤ 144 := by rw [← hln, hpL.length_eq]; exact HPN.out (1 - who)
        have hn288 : n ≤ 144 * 1 := by rw [HNL.out]; exact htw.out.2.2.2
        have HLN := Lib.hid hln
        have HGL := Lib.hid hgL
        have HPL := Lib.hid hpL
        have HLJ : Hid (∀ j ∈ L, j < ps.length) := Lib.hid fun j hj => HLT.out (1 - who) j (hpL.mem_iff.1 hj)
        have HTW := htw
        clear hvL hpL hLc b2 hgL hln y0 y1 y2 y3 y4 y5 y6 y7 y8 y9 z0 z1 z2 htw hltA
        go_wp2_with fail
        go_loopw [9, 29] (fun vl vi wr => ∃ (j : Nat) (a : Option Addr) (n c : Nat), vi = .int .i64 j ∧ j ≤ ln ∧ vl = .slice a n c ∧ n = (l ++ ofsL xs ps who i sl (L.take j)).length ∧ NatsAt wr w1.heap.size (.slice a n c) (l ++ ofsL xs ps who i sl (L.take j)) ∧ Below w1.heap.size w1 wr ∧ Hid (LL wr L gL (.slice a n c))) (fun _ vi _ => ln - (RowKit.intOf vi).toNat)
        case atStart => exact ⟨0, a, n, c, by rfl, by omega, rfl, by simp [ofsL, HNL.out], by simpa [ofsL] using HO2.out, HB2.out, Lib.hid fun h => (HGL.out h).2 h⟩
        case round =>
          obtain ⟨j, a', n', c', rfl, hj, rfl, hn', hown', hbw', hLL⟩ := hrel
          rename World => wC
          have HBC := Lib.hid hbw'
          have HBCw : Hid (Below w.heap.size w wC) := Lib.hid (HB0.out.trans (hbw'.mono HB0.out.size))
          have HXC := Lib.hid ((hbw'.block _ (heap_lt HX0.out)).trans HX0.out)
          have HYC := Lib.hid ((hbw'.block _ (heap_lt HY0.out)).trans HY0.out)
          have HOC := Lib.hid hown'
          have HNC := Lib.hid hn'
          clear hbw' hown'
          by_cases hjl : j < ln
          · obtain ⟨x, hx⟩ : ∃ x, L[j]? = some x := ⟨_, List.getElem?_eq_getElem (by rw [HLN.out]; exact hjl)⟩
            have hLne : L ≠ [] := fun h => by rw [h] at hx; simp at hx
            obtain ⟨rfl, -⟩ := HGL.out hLne
            have hxl := HLJ.out x (List.mem_of_getElem? hx)
            have hcx := (hLL.out hLne).2.2 j x hx
            have hofx := Lib.hid (hof.out x hxl)
            have HNX := Lib.hid (ofsL_next (xs := xs) (ps := ps) (who := who) (i := i) (s := sl) hx)
            have hn2 : n' ≤ 144 * 1 + 144 := by
              rw [hn', List.length_append]
              have h1 := HTW.out.2.2.2
              have h2 := ofsL_len (xs := xs) (ps := ps) (who := who) (i := i) (s := sl) (L.take j)
              rw [List.length_take] at h2
              omega
            have y0 := cell_blk (i := 0) HXC.out
            have y1 := cell_blk (i := 1) HXC.out
            have y2 := cell_blk (i := 2) HXC.out
            have y3 := cell_blk (i := 3) HXC.out
            have y4 := cell_blk (i := 4) HXC.out
            have y5 := cell_blk (i := 5) HXC.out
            have y6 := cell_blk (i := 6) HXC.out
            have y7 := cell_blk (i := 7) HXC.out
            have y8 := cell_blk (i := 8) HXC.out
            have y9 := cell_blk (i := 9) HXC.out
            simp at y0 y1 y2 y3 y4 y5 y6 y7 y8 y9
            have z0 := cell_blk (i := 0) HYC.out
            have z1 := cell_blk (i := 1) HYC.out
            have z2 := cell_blk (i := 2) HYC.out
            simp at z0 z1 z2
            have k0 : (0 : Int) ≤ (j : Int) := by omega
            have k1 : (j : Int) < (ln : Int) := by omega
            obtain ⟨r, hr⟩ : ∃ r, ofI xs ps who i sl x = r := ⟨_, rfl⟩
            rw [hr] at hofx HNX
            clear hx hr hn' hxl
            go_wp2_with fail
            refine (hofx.out _ HBCw.out).mono ?_
            rintro e w3 ⟨rfl, b3⟩
            have HB3 := Lib.hid (HBC.out.trans (b3.mono HBC.out.size))
            have HO3 := Lib.hid (HOC.out.below b3)
            have HL3 := Lib.hid (hLL.out.below b3)
            clear b3 y0 y1 y2 y3 y4 y5 y6 y7 y8 y9 z0 z1 z2 hcx hLL
            cases r with
            | true =>
              have HNX := Lib.hid (show ofsL xs ps who i sl (L.take (j + 1)) = ofsL xs ps who i sl (L.take j) ++ [x] from by have := HNX.out; simpa using this)
              have HAL := Lib.hid (HB3.out.alloc HB3.out.size (.cells #[.int .i64 x] 3))
              have HOA : Hid ((w3.alloc (.cells #[.int .i64 x] 3)).ownsRow w1.heap.size 3 1 (.slice a' n' c') n' ((l ++ ofsL xs ps who i sl (L.take j)).map idV)) := Lib.hid (by
                have := HO3.out.below ((Below.refl _ _).alloc (Nat.le_refl _) (.cells #[.int .i64 x] 3))
                unfold NatsAt at this
                rwa [← HNC.out] at this)
              have HBK : Hid (∀ j, (Value.slice a' n' c').ownBlock = some j → w1.heap.size ≤ j) := Lib.hid fun j hj => (World.ownsRow.lt HOA.out j hj).1
              have HLA := Lib.hid (HL3.out.below ((Below.refl _ _).alloc (Nat.le_refl _) (.cells #[.int .i64 x] 3)))
              go_wp2_with (at_builtin; (refine wpList_append_lies _ rfl (.tmp 39) (.tmp 41) 65 rfl w1.heap.size 3 i0 _ 1 8 Try.underlying65 hi0 hz0 hz1 hz2 rfl (by omega) _ n' ((l ++ ofsL xs ps who i sl (L.take j)).map idV) rfl HOA.out ⟨w3.heap.size, 0, none⟩ 1 1 [.int .i64 x] rfl rfl (World.news_of_block (cs := #[.int .i64 x]) (t := 3) (fr := (0, 0)) (heap_alloc_new _ _)) (by simp [Value.oneCell']) (by omega) (by unfold maxLen; omega) (by omega) HAL.out.size _ rfl ?_; intro g4 cap w5 hown4 hgrow4 hat4 hlt4))
              have hB5 : Below w1.heap.size w1 w5 := HAL.out.grown hgrow4 HAL.out.size (fun j hj => HBK.out j hj)
              have hl2 : (l ++ ofsL xs ps who i sl (L.take (j + 1))).length = n' + 1 := by
                rw [HNX.out, ← List.append_assoc, List.length_append, ← HNC.out]; rfl
              have ho5 : NatsAt w5 w1.heap.size (.slice (some ⟨g4, 0, none⟩) (n' + 1) cap) (l ++ ofsL xs ps who i sl (L.take (j + 1))) := by
                show World.ownsRow _ _ _ _ _ _ _
                rw [hl2, HNX.out, ← List.append_assoc, List.map_append]
                exact hown4
              have HL5 := Lib.hid (HLA.out.grown (n := n' + 1) (c := cap) hgrow4 hat4)
              have HO5 := Lib.hid ho5
              have HB5 := Lib.hid hB5
              have HL2 := Lib.hid hl2
              clear ho5 hB5 hl2 hown4 hgrow4 hat4
              go_wp2_with fail
              go_roundw
              case rel => exact ⟨j + 1, _, n' + 1, cap, by go_num, by omega, rfl, HL2.out.symm, HO5.out, HB5.out, HL5⟩
              case measure => simp [RowKit.intOf]; omega
            | false =>
              have HNX := Lib.hid (show ofsL xs ps who i sl (L.take (j + 1)) = ofsL xs ps who i sl (L.take j) from by have := HNX.out; simpa using this)
              go_wp2_with fail
              go_roundw
              case rel => exact ⟨j + 1, a', n', c', by go_num, by omega, rfl, by rw [HNX.out]; exact HNC.out, by rw [HNX.out]; exact HO3.out, HB3.out, HL3⟩
              case measure => simp [RowKit.intOf]; omega
          · obtain rfl : j = ln := by omega
            have htk : L.take j = L := List.take_of_length_le (by rw [HLN.out]; exact Nat.le_refl _)
            have HO4 : Hid (NatsAt wC w1.heap.size (.slice a' n' c') (l ++ ofsL xs ps who i sl L)) := Lib.hid (by rw [← htk]; exact HOC.out)
            have HN4 : Hid (n' = (l ++ ofsL xs ps who i sl L).length) := Lib.hid (by rw [hn', htk])
            have HT4 : Hid (TwoL xs ps who i sl (1 + 1) (l ++ ofsL xs ps who i sl L)) := Lib.hid (by
              have hPL : (ofsL xs ps who i sl L).Perm (ofsL xs ps who i sl (idsIn ps (1 - who) sl.zone)) := by
                rw [HZN.out]
                exact HPL.out.filter _
              refine ⟨fun h => by omega, fun h => ?_, fun h => ?_, ?_⟩
              · omega
              · unfold cntL
                have h1 := HTW.out.2.1 rfl
                have h2 := h1.append hPL
                unfold ofsL at h2 ⊢
                rw [List.filter_append]
                exact h2
              · rw [List.length_append]
                have h1 := HTW.out.2.2.2
                have h2 := ofsL_len (xs := xs) (ps := ps) (who := who) (i := i) (s := sl) L
                rw [HLN.out] at h2
                omega)
            clear hn' hLL htk HOC
            go_wp2_with fail
            go_roundw
            case rel => exact ⟨1 + 1, a', n', c', _, by go_num, by omega, rfl, HN4.out, HO4.out, HBC.out, HT4⟩
            case measure => simp [RowKit.intOf]
    · obtain rfl : k = 2 := by omega
      have HT := Lib.hid (htw.out.2.2.1 (by omega))
      clear hlt hk htw
      go_wp2_with fail
      go_ret
      exact ⟨⟨.slice a n c, l, rfl, nats_base HO.out HB0.out.size, HT.out⟩, HBw.out⟩
end Go.Proofs.Ytlbbabojejimpaa
