import Derived.Test.YtbkjminjkjnkpaaGreatDoorQDkCalls
import Derived.Test.YtbkjminjkjnkpaaGreatDoorQDkRepeat
import Derived.OwnWalk
import Derived.Carry
/- Layer 5 (decks): a deck, read. -/
namespace Go.Proofs.YtbkjminjkjnkpaaGreatDoor
open Go.RowKit Go.Lib

def natCells (out : List Nat) : List Value := out.map fun (k : Nat) => .int .i64 (k : Int)
theorem natCells_app (a b : List Nat) : natCells (a ++ b) = natCells a ++ natCells b := by simp [natCells]
theorem natCells_rep (n k : Nat) : natCells (List.replicate n k) = List.replicate n (Value.int .i64 (k : Int)) := by simp [natCells]
/-- A list of places in memory of its own, behind a block. -/
abbrev NatsAt (w : World) (B : Nat) (v : Value) (out : List Nat) : Prop := w.ownsRow B 3 1 v out.length (natCells out)
theorem NatsAt.form {w : World} {B : Nat} {v : Value} {out : List Nat} (h : NatsAt w B v out) : ∃ a c, v = .slice a out.length c := by
  rcases h.2 with ⟨hv, h0⟩ | ⟨g, cap, cur, hv, _⟩
  · exact ⟨none, 0, by rw [hv, h0]⟩
  · exact ⟨_, _, hv⟩

/-- How a reader of a deck stands, in the middle. -/
structure DkSt (w wr : World) (E : DE) (T : Nat) (v : Value) (out tl : List Nat) (p n : Nat) : Prop where
  rd : DRd wr E p
  kept : Kept E.R w wr
  told : ToldAt wr T tl n
  tw : w.heap.size ≤ T
  np : n ≤ p
  ol : out.length ≤ 3 * n
  own : NatsAt wr w.heap.size v out
section
variable {w wr w' : World} {E : DE} {T : Nat} {v : Value} {out tl : List Nat} {p n : Nat}
theorem DkSt.goes (h : DkSt w wr E T v out tl p n) (hR : E.R < w.heap.size) {q : Nat} (hpq : p ≤ q) (g : DGoes wr E q w') : DkSt w w' E T v out tl q n := by
  have hT := h.told.lt
  have htw := h.tw
  refine ⟨g.rd, h.kept.trans g.kept, h.told.same (g.kept.block _ hT (by omega)), h.tw, Nat.le_trans h.np hpq, h.ol, ownsRow_same h.own fun k hk => ?_⟩
  have := h.own.lt k hk
  exact g.kept.block _ this.2 (by omega)
theorem DkSt.later (h : DkSt w wr E T v out tl p n) (hR : E.R < w.heap.size) (b : Below wr.heap.size wr w') : DkSt w w' E T v out tl p n :=
  h.goes hR (Nat.le_refl _) ⟨h.rd.below b, .of_below b⟩
/-- Something of our own has turned. -/
theorem DkSt.own_turn (h : DkSt w wr E T v out tl p n) (h0 : DEnv w E) (hR : E.R < w.heap.size) {row : Option Nat} (hg : wr.grownBy w' row) (hr : ∀ k, row = some k → w.heap.size ≤ k) : Kept E.R w w' ∧ DRd w' E p := by
  have k : Kept E.R w w' := ⟨hg.os.trans h.kept.os, hg.tape.trans h.kept.tape, hg.output.trans h.kept.output, Nat.le_trans h.kept.size hg.size, fun i hi hne => by
    rw [hg.block i (Nat.lt_of_lt_of_le hi h.kept.size) (fun e => by have := hr _ e.symm; omega)]
    exact h.kept.block i hi hne⟩
  refine ⟨k, h0.kept k, ?_, h.rd.lt⟩
  have hlt : E.R < wr.heap.size := h.rd.blk
  rw [hg.block E.R hlt (fun e => by have := hr _ e.symm; omega)]
  exact h.rd.rd
theorem own_not_map {W : World} {B : Nat} (h : NatsAt W B v out) {T : Nat} (ht : ToldAt W T tl n) : v.ownBlock ≠ some T := by
  obtain ⟨D, ⟨es, ck, hh, -⟩, -⟩ := ht
  rcases h.2 with ⟨hv, _⟩ | ⟨g, cap, cur, hv, _, hg, _⟩
  · rw [hv]; simp [Value.ownBlock]
  · rw [hv]
    intro e
    have e' : g = T := by simpa [Value.ownBlock] using e
    subst e'
    rw [hg] at hh
    cases hh
theorem DkSt.store (h : DkSt w wr E T v out tl p n) (h0 : DEnv w E) (hR : E.R < w.heap.size) {tl' : List Nat} (hg : wr.grownBy w' (some T)) (ht : ToldAt w' T tl' (n + 1)) (hp : n + 1 ≤ p) : DkSt w w' E T v out tl' p (n + 1) := by
  obtain ⟨k, rd⟩ := h.own_turn h0 hR hg (fun k e => by cases e; exact h.tw)
  exact ⟨rd, k, ht, h.tw, hp, by have := h.ol; omega, h.own.kept hg (.inr (own_not_map h.own h.told))⟩
theorem DkSt.grow (h : DkSt w wr E T v out tl p n) (h0 : DEnv w E) (hR : E.R < w.heap.size) {v' : Value} {out' : List Nat} (hg : wr.grownBy w' v.ownBlock) (ho : NatsAt w' w.heap.size v' out') (h3 : out'.length ≤ 3 * n) : DkSt w w' E T v' out' tl p n := by
  obtain ⟨k, rd⟩ := h.own_turn h0 hR hg (fun k e => (h.own.lt k e).1)
  exact ⟨rd, k, h.told.same (hg.block _ h.told.lt (Ne.symm (own_not_map h.own h.told))), h.tw, h.np, h3, ho⟩
end

theorem repeat_any (hM : MulSays) (w : World) (b : Nat) (x : Int) (N : Nat) (h1 : 1 ≤ N) (h3 : N ≤ 3) (hb : w.heap[b]? = some (.cells #[.int .i64 x] 3 (0, 0))) :
    Calls Tryz.prog 63 #[.slice (some ⟨b, 0, none⟩) 1 1, .int .i64 N] w (RepAt w x N) := by
  obtain rfl | rfl | rfl : N = 1 ∨ N = 2 ∨ N = 3 := by omega
  · exact repeat_one hM w b x hb
  · exact repeat_two hM w b x hb
  · exact repeat_three hM w b x hb
theorem mul_says : MulSays := fun x y w hx hy => Tryz.bits_Mul x y hx hy w

theorem go_other {ns : List ByteArray} {t : KT} {l : List KT} {out : List Nat} (h : t.1 ≠ 2) : goDeck ns (t :: l) out = if t.2 = ⟨#[125]⟩ then (if out.length < 5 ∨ 40 < out.length then (9, out, t :: l) else (0, out, l)) else (5, out, t :: l) := by
  rw [goDeck.eq_def]; simp only [if_neg h]
theorem go_bad {ns : List ByteArray} {t : KT} {l : List KT} {out : List Nat} (h : t.1 = 2) (hn : numK t < 1 ∨ 3 < numK t) : goDeck ns (t :: l) out = (3, out, t :: l) := by
  rw [goDeck.eq_def]; simp only [if_pos h, if_pos hn]
theorem go_num {ns : List ByteArray} {t u : KT} {l : List KT} {out : List Nat} (h : t.1 = 2) (hn : ¬ (numK t < 1 ∨ 3 < numK t)) :
    goDeck ns (t :: u :: l) out = if (kindOf ns u out).1 = 0 then goDeck ns l (out ++ List.replicate (numK t) (kindOf ns u out).2) else ((kindOf ns u out).1, out, u :: l) := by
  conv => lhs; rw [goDeck.eq_def]
  simp only [if_pos h, if_neg hn]
  unfold kindOf
  by_cases h1 : u.1 = 1
  · simp only [if_pos h1]
    cases hf : findW ns u.2 0 with
    | none => simp
    | some k =>
      by_cases hk : k ∈ out
      · simp [hk]
      · simp [hk]
  · simp [h1]

theorem kind_le {ns : List ByteArray} (hf : ns.length ≤ maxLen) (t : KT) (out : List Nat) : (kindOf ns t out).2 ≤ maxLen := by
  unfold kindOf
  split
  · split
    · exact Nat.zero_le _
    · rename_i k hk
      have := findW_lt _ _ _ hk
      split
      · exact Nat.zero_le _
      · exact Nat.le_trans (Nat.le_of_lt this) hf
  · exact Nat.zero_le _
/-- How many tokens a reader has left. -/
def leftOf (W : World) (R : Nat) : Nat := match W.cell? ⟨R, 0, none⟩ with
  | some (.slice _ n _) => n
  | _ => 0
theorem DRd.left {W : World} {E : DE} {p : Nat} (h : DRd W E p) : leftOf W E.R = E.n - p := by
  unfold leftOf
  rw [h.cells.1]
theorem DkSt.left {w wr : World} {E : DE} {T : Nat} {v : Value} {out tl : List Nat} {p n : Nat} (h : DkSt w wr E T v out tl p n) : leftOf wr E.R = E.n - p := h.rd.left
theorem natCells_one (out : List Nat) : ∀ u ∈ natCells out, u.oneCell' = true := by
  intro u hu
  simp only [natCells, List.mem_map] at hu
  obtain ⟨k, -, rfl⟩ := hu
  rfl
theorem rep_cells {w : World} {g : Nat} {x : Int} {N : Nat} (hg : w.heap[g]? = some (.cells (Array.replicate N (.int .i64 x)) 3 (0, 0))) : ∀ j u, (List.replicate N (Value.int .i64 x))[j]? = some u → w.cell? ((⟨g, 0, none⟩ : Addr).add j) = some u := by
  intro j u hu
  rw [Addr.add_lit, cell_blk hg, Nat.zero_add, ← hu, ← Array.toList_replicate, Array.getElem?_toList]
/-- What deck answers. -/
def DeckEnds (E : DE) (w : World) (R : Nat × List Nat × List KT) (e : Ending) (w' : World) : Prop :=
  ∃ a n c q, e = .returned (.tuple #[.slice a n c, .int .i64 R.1]) ∧ DGoes w E q w' ∧ E.kts.drop q = R.2.2 ∧ (R.1 = 0 → NatsAt w' w.heap.size (.slice a n c) R.2.1)

set_option maxHeartbeats 4000000 in
set_option maxRecDepth 100000 in
theorem ddeck_any (E : DE) (p : Nat) (w : World) (h : DRd w E p) :
    Calls Tryz.prog 35 #[.pointer (some ⟨E.R, 0, none⟩)] w (DeckEnds E w (oneDeck E.ns (E.kts.drop p))) := by
  have HH := Lib.hid h
  have hR := h.blk
  obtain ⟨i0, hi0, hz0, hz1, hz2⟩ := info_parts int_info
  have hd := kts_drop h.lt
  by_cases hx : (tk E.ts p).text = ⟨#[100, 101, 99, 107]⟩
  · have hp1 : p + 1 < E.n := dtok_more h (fun e => by have := (dtok_wf h).none e; rw [hx] at this; exact absurd this (by decide))
    have hd1 := kts_drop hp1
    have hs1 := dskip_yes E p w h ⟨#[100, 101, 99, 107]⟩ hx hp1
    by_cases hy : (tk E.ts (p + 1)).text = ⟨#[123]⟩
    · have HG : Hid (oneDeck E.ns (E.kts.drop p) = goDeck E.ns (E.kts.drop (p + 2)) []) := by
        rw [hd, hd1]
        show (if (tk E.ts p).text = _ then (if (tk E.ts (p + 1)).text = _ then _ else _) else _) = _
        rw [if_pos hx, if_pos hy]
      rw [HG.out]
      obtain ⟨R0, hR0⟩ : ∃ R0, goDeck E.ns (E.kts.drop (p + 2)) [] = R0 := ⟨_, rfl⟩
      rw [hR0]
      have HR0 := Lib.hid hR0
      clear hR0
      have hp2 : Hid (∀ W, DRd W E (p + 1) → p + 2 < E.n ∧ Calls Tryz.prog 60 #[.pointer (some ⟨E.R, 0, none⟩), .string ⟨#[123]⟩] W fun e w' => e = .returned (.bool true) ∧ DGoes W E (p + 2) w') := fun W hW => by
        have hp2 : p + 2 < E.n := dtok_more hW (fun e => by have := (dtok_wf hW).none e; rw [hy] at this; exact absurd this (by decide))
        exact ⟨hp2, dskip_yes E (p + 1) W hW ⟨#[123]⟩ hy hp2⟩
      have HS1 := Lib.hid hs1
      clear hd hd1 hs1 hx hy hp1 HG h
      go_enter Tryz.func35, Tryz.ntmps35
      go_wp2_with fail
      refine HS1.out.mono ?_
      rintro e w1 ⟨rfl, g1⟩
      have HP2 := Lib.hid (hp2.out _ g1.rd)
      have G1 := Lib.hid g1
      clear g1
      go_wp2_with fail
      refine HP2.out.2.mono ?_
      rintro e w2 ⟨rfl, g2⟩
      have G2 := Lib.hid (G1.out.trans g2)
      clear g2
      have hmm := @run_makeMap Tryz.prog
      obtain ⟨w3, hw3⟩ : ∃ w3, w3 = w2.alloc (.map #[] 0) := ⟨_, rfl⟩
      have hT0 := told_new w2
      have hst : DkSt w w3 E w2.heap.size (.slice none 0 0) [] [] (p + 2) 0 := by
        have g3 := G2.out.below ((Below.refl w2.heap.size w2).alloc (Nat.le_refl _) (.map #[] 0))
        rw [← hw3] at g3 hT0
        exact ⟨g3.rd, g3.kept, hT0, G2.out.kept.size, by omega, by simp, World.ownsRow_nil _ _ _ _⟩
      have ST := Lib.hid hst
      have hW3 := Lib.hid hw3
      clear hT0 hst hw3
      have hmm2 := hmm 113 w2
      rw [← hW3.out] at hmm2
      clear hmm
      have h0 := Lib.hid HH.out.env
      clear hp2 HS1 HP2 G1 G2
      go_wp2_with fail
      go_loopw [4] (fun v4 wr => ∃ (out : List Nat) (a : Option Addr) (c q n : Nat), v4 = .slice a out.length c ∧ DkSt w wr E w2.heap.size v4 out out q n ∧ goDeck E.ns (E.kts.drop q) out = R0) (fun _ wr => leftOf wr E.R)
      case atStart => exact ⟨[], none, 0, p + 2, 0, rfl, ST.out, HR0.out⟩
      case round =>
        obtain ⟨out, a, c, q, n, rfl, hst, hgo⟩ := hrel
        have HL := Lib.hid hst.left
        have hqn := hst.rd.lt
        have hnp0 := hst.np
        have hd := kts_drop hst.rd.lt
        have hnx := dnext_any E q wr hst.rd
        have HN := Lib.hid hnx
        have HST := Lib.hid hst
        rw [hd] at hgo
        have HGO := Lib.hid hgo
        have HD := Lib.hid hd
        clear hnx hd hgo ST HR0 hmm2 hW3
        have hf := dtokf (tk E.ts q).kind (tk E.ts q).text (tk E.ts q).spot.1 (tk E.ts q).spot.2
        have hf0 := hf.1
        have hol : out.length ≤ maxLen := by
          rcases hst.own.2 with ⟨_, h0⟩ | ⟨g, cap, cur, hv, _, _, h1, h2, _⟩
          · rw [h0]; unfold maxLen; omega
          · exact Nat.le_trans h1 h2
        clear hf hst
        by_cases hk : (tk E.ts q).kind = 2
        · rw [hk] at HN hf0
          have hf1 : ∀ W : World, (Instr.field 66 (.agg #[.int .u8 2, .string (tk E.ts q).text, .int .i64 (tk E.ts q).spot.1, .int .i64 (tk E.ts q).spot.2]) 0).run Tryz.prog W = .ok (.int .u8 2) W := hf0
          clear hf0
          by_cases hN : numK (tk E.ts q).kt < 1 ∨ 3 < numK (tk E.ts q).kt
          · have hg2 := go_bad (ns := E.ns) (l := E.kts.drop (q + 1)) (out := out) (t := (tk E.ts q).kt) hk hN
            rw [HGO.out] at hg2
            rw [← HD.out] at hg2
            have HG2 := Lib.hid hg2
            have HK := Lib.hid hk
            have HNN := Lib.hid hN
            clear hg2 hk hN
            go_wp2_with fail
            refine HN.out.mono ?_
            rintro e w4 ⟨rfl, b4⟩
            have HST := Lib.hid (HST.out.later hR b4)
            clear b4
            go_wp2_with fail
            refine (dcount_no E q _ HST.out.rd HK.out HNN.out).mono ?_
            rintro e w5 ⟨rfl, b5⟩
            have HST := Lib.hid (HST.out.later hR b5)
            clear b5
            go_wp2
            go_ret2
            exact ⟨none, 0, 0, q, by rw [HG2.out]; rfl, ⟨HST.out.rd, HST.out.kept⟩, by rw [HG2.out], fun h => by rw [HG2.out] at h; cases h⟩
          · have hq1 : q + 1 < E.n := dtok_more HST.out.rd (by omega)
            have hd1 := kts_drop hq1
            have hg2 := go_num (ns := E.ns) (l := E.kts.drop (q + 1 + 1)) (out := out) (t := (tk E.ts q).kt) (u := (tk E.ts (q + 1)).kt) hk hN
            rw [← hd1, HGO.out] at hg2
            have HG2 := Lib.hid hg2
            have HK := Lib.hid hk
            have HN1 : Hid (1 ≤ numK (tk E.ts q).kt ∧ numK (tk E.ts q).kt ≤ 3) := ⟨by omega, by omega⟩
            have HD1 := Lib.hid hd1
            clear hg2 hk hN hd1
            obtain ⟨N, hne⟩ : ∃ N, numK (tk E.ts q).kt = N := ⟨_, rfl⟩
            rw [hne] at HN1 HG2
            have HNE := Lib.hid hne
            clear hne
            obtain ⟨KO, hko⟩ : ∃ KO, kindOf E.ns (tk E.ts (q + 1)).kt out = KO := ⟨_, rfl⟩
            rw [hko] at HG2
            have HKO := Lib.hid hko
            clear hko
            go_wp2_with fail
            refine HN.out.mono ?_
            rintro e w4 ⟨rfl, b4⟩
            have HST := Lib.hid (HST.out.later hR b4)
            clear b4
            go_wp2_with fail
            refine (dcount_yes E q _ HST.out.rd HK.out (by rw [HNE.out]; exact HN1.out.1) (by rw [HNE.out]; exact HN1.out.2)).mono ?_
            rw [HNE.out]
            rintro e w5 ⟨rfl, g5⟩
            have HST := Lib.hid (HST.out.goes hR (Nat.le_succ q) g5)
            clear g5
            go_wp2_with fail
            refine (dkind_any E (q + 1) _ HST.out.rd _ out n HST.out.told (by have := HST.out.tw; omega)).mono ?_
            rw [HKO.out]
            rintro e w6 ⟨rfl, g6⟩
            have HST := Lib.hid (HST.out.goes hR (Nat.le_add_right _ _) g6)
            clear g6
            by_cases hz : KO.1 = 0
            · rw [hz] at HST
              rw [if_pos hz] at HG2
              have hz' : ((KO.1 : Nat) : Int) = 0 := by omega
              have hkl : KO.2 ≤ maxLen := by
                rw [← HKO.out]; exact kind_le HH.out.env.few _ _
              obtain ⟨w7, hst7, ht7, hg7⟩ := told_store HST.out.told (by have := HST.out.np; have h1 := HST.out.rd.lt; have h2 := HH.out.env.small; have h3 : stepOf 0 = 1 := rfl; unfold maxLen; omega) KO.2 hkl N (by have := HN1.out; omega) (by have := HN1.out; omega)
              have HST7 := Lib.hid (HST.out.store h0.out hR hg7 ht7 (by have h3 : stepOf 0 = 1 := rfl; omega))
              clear ht7 hg7 hz
              go_wp2_with fail
              refine (repeat_any mul_says _ _ _ N HN1.out.1 HN1.out.2 (heap_alloc_new w7 _)).mono ?_
              rintro e w8 ⟨g, rfl, hg8, hc8, b8⟩
              have HST8 := Lib.hid ((HST7.out.later hR ((Below.refl _ w7).alloc (Nat.le_refl _) (.cells #[.int .i64 (KO.2 : Int)] 3))).later hR b8)
              have hg8' : g < w8.heap.size := heap_lt hc8
              have HC8 := Lib.hid hc8
              have hsz8 := HST8.out.kept.size
              have hnq : n ≤ 65537 := by have := HST.out.np; have h1 := HST.out.rd.lt; have h2 := HH.out.env.small; have h3 : stepOf 0 = 1 := rfl; omega
              have hol3 : out.length ≤ 3 * n := HST.out.ol
              have hN3 := HN1.out.2
              clear hg8 hc8 b8 hst7
              go_wp2_with (at_builtin; refine wpList_append_own _ rfl _ _ 22 rfl w.heap.size 3 i0 (.int .i64 0) 1 8 Tryz.underlying22 hi0 hz0 hz1 hz2 rfl (by decide) _ _ _ rfl HST8.out.own ⟨g, 0, none⟩ N N (List.replicate N (.int .i64 (KO.2 : Int))) rfl ?c1 ?c2 ?c3 ?c4 ?c5 hsz8 ?_)
              case c1 => simp
              case c2 => exact rep_cells HC8.out
              case c3 => intro u hu; rw [← natCells_rep] at hu; exact natCells_one _ u hu
              case c4 => unfold maxLen; omega
              case c5 => omega
              intro v' w9 hown' hgrow _
              have hcells : natCells out ++ List.replicate N (Value.int .i64 (KO.2 : Int)) = natCells (out ++ List.replicate N KO.2) := by rw [natCells_app, natCells_rep]
              have hl9 : (out ++ List.replicate N KO.2).length = out.length + N := by simp
              rw [hcells, ← hl9] at hown'
              have HST9 := Lib.hid (HST8.out.grow h0.out hR hgrow hown' (by rw [hl9]; omega))
              obtain ⟨a', c', hv'⟩ := NatsAt.form hown'
              subst hv'
              clear hown' hgrow hcells hl9
              go_wp2
              go_roundw
              case rel => exact ⟨out ++ List.replicate N KO.2, a', c', q + 1 + 1, n + 1, rfl, HST9.out, by rw [HG2.out]⟩
              case measure => rw [HL.out, HST9.out.left]; have h3 : stepOf 0 = 1 := rfl; have := HST9.out.rd.lt; omega
            · rw [if_neg hz] at HG2
              have q2 : ((KO.1 : Int) != 0) = true := by simpa using hz
              have hs0 : stepOf KO.1 = 0 := by unfold stepOf; rw [if_neg hz]
              rw [hs0] at HST
              clear hs0 hz
              go_wp2
              go_ret2
              exact ⟨none, 0, 0, _, by rw [HG2.out]; rfl, ⟨HST.out.rd, HST.out.kept⟩, by rw [HG2.out], fun h => by rw [HG2.out] at h; simp only at h; rw [h] at q2; cases q2⟩
        · have q1 : (((tk E.ts q).kind : Int) == 2) = false := by simp; omega
          have hg2 := go_other (ns := E.ns) (l := E.kts.drop (q + 1)) (out := out) (t := (tk E.ts q).kt) hk
          rw [HGO.out] at hg2
          have HG2 := Lib.hid hg2
          have hol2 := hol
          unfold maxLen at hol2
          clear hg2
          go_wp2_with fail
          refine HN.out.mono ?_
          rintro e w4 ⟨rfl, b4⟩
          have HST := Lib.hid (HST.out.later hR b4)
          clear b4
          go_wp2_with fail
          refine (dend_any E q _ HST.out.rd out.length hol).mono ?_
          rintro e w5 ⟨rfl, g5⟩
          have HG5 := Lib.hid g5
          clear g5
          go_wp2
          go_ret2
          have hfin := HST.out.goes hR (Nat.le_add_right _ _) HG5.out
          have hG := (⟨hfin.rd, hfin.kept⟩ : DGoes w E _ _)
          have hkt : (tk E.ts q).kt.2 = (tk E.ts q).text := rfl
          refine ⟨a, out.length, c, _, ?_, hG, ?_, ?_⟩
          · rw [HG2.out, hkt]
            unfold endE
            by_cases hx : (tk E.ts q).text = ⟨#[125]⟩
            · simp only [if_pos hx]
              split <;> rfl
            · simp only [if_neg hx]
              rfl
          · rw [HG2.out, hkt]
            unfold endP
            by_cases hx : (tk E.ts q).text = ⟨#[125]⟩
            · by_cases hm : out.length < 5 ∨ 40 < out.length
              · rw [if_neg (fun a => a.2 hm), if_pos hx, if_pos hm]; exact HD.out
              · rw [if_pos ⟨hx, hm⟩, if_pos hx, if_neg hm]
            · rw [if_neg (fun a => hx a.1), if_neg hx]; exact HD.out
          · intro _
            have : R0.2.1 = out := by
              rw [HG2.out, hkt]
              by_cases hx : (tk E.ts q).text = ⟨#[125]⟩
              · by_cases hm : out.length < 5 ∨ 40 < out.length
                · rw [if_pos hx, if_pos hm]
                · rw [if_pos hx, if_neg hm]
              · rw [if_neg hx]
            rw [this]
            exact hfin.own
    · have HG : Hid (oneDeck E.ns (E.kts.drop p) = (5, [], E.kts.drop (p + 1))) := by
        rw [hd, hd1]
        show (if (tk E.ts p).text = _ then (if (tk E.ts (p + 1)).text = _ then _ else _) else _) = _
        rw [if_pos hx, if_neg hy]
      have hp2 : Hid (∀ W, DRd W E (p + 1) → Calls Tryz.prog 60 #[.pointer (some ⟨E.R, 0, none⟩), .string ⟨#[123]⟩] W fun e w' => e = .returned (.bool false) ∧ Below W.heap.size W w') := fun W hW => dskip_no E (p + 1) W hW ⟨#[123]⟩ hy
      rw [HG.out]
      have HS1 := Lib.hid hs1
      clear hd hd1 hs1 hx hy hp1 HG h
      go_enter Tryz.func35, Tryz.ntmps35
      go_wp2_with fail
      refine HS1.out.mono ?_
      rintro e w1 ⟨rfl, g1⟩
      have G1 := Lib.hid g1
      clear g1
      go_wp2_with fail
      refine (hp2.out _ G1.out.rd).mono ?_
      rintro e w2 ⟨rfl, b2⟩
      have G2 := Lib.hid (G1.out.below b2)
      clear b2
      go_wp2
      go_ret2
      exact ⟨none, 0, 0, p + 1, rfl, G2.out, rfl, fun h => by cases h⟩
  · have HG : Hid (oneDeck E.ns (E.kts.drop p) = (5, [], E.kts.drop p)) := by
      rw [hd]
      show (if (tk E.ts p).text = _ then _ else _) = _
      rw [if_neg hx]
    have hs1 := dskip_no E p w h ⟨#[100, 101, 99, 107]⟩ hx
    rw [HG.out]
    have HS1 := Lib.hid hs1
    clear hd hs1 hx HG h
    go_enter Tryz.func35, Tryz.ntmps35
    go_wp2_with fail
    refine HS1.out.mono ?_
    rintro e w1 ⟨rfl, b1⟩
    have G1 := Lib.hid (HH.out.goes.below b1)
    clear b1
    go_wp2
    go_ret2
    exact ⟨none, 0, 0, p, rfl, G1.out, rfl, fun h => by cases h⟩
end Go.Proofs.YtbkjminjkjnkpaaGreatDoor
