import Derived.Test.YtbkjminjkjnkpaaGreatDoorQRef
import Derived.Test.YtbkjminjkjnkpaaGreatDoorQScan
import Derived.IntWalk
/- joustref01.Tokens: what it answers, for every text. -/
namespace Go.Proofs.YtbkjminjkjnkpaaGreatDoor
open Go.RowKit Go.Lib

theorem remGo_le (s : ByteArray) : ∀ f pos, pos ≤ s.size → (remGo s f pos).1 ≤ s.size ∧ -1 ≤ (remGo s f pos).2 ∧ (remGo s f pos).2 ≤ s.size
  | 0, pos, h => by simp [remGo]; omega
  | f + 1, pos, h => by
    unfold remGo
    split
    · rename_i hp
      have := decode_fits s pos hp.1
      split
      · simp; omega
      · exact remGo_le s f _ this
    · simp; omega
theorem remOf_le (s : ByteArray) : (remOf s).1 ≤ s.size ∧ -1 ≤ (remOf s).2 ∧ (remOf s).2 ≤ s.size := remGo_le s _ _ (by omega)
theorem remGo_ge (s : ByteArray) : ∀ f pos, ¬ 0 ≤ (remGo s f pos).2 → pos ≤ (remGo s f pos).1
  | 0, pos, _ => Nat.le_refl _
  | f + 1, pos, h => by
    unfold remGo at h ⊢
    split
    · rename_i hp
      rw [if_pos hp] at h
      split
      · rename_i hb
        rw [if_pos hb] at h
        simp at h
      · rename_i hb
        rw [if_neg hb] at h
        have := remGo_ge s f _ h
        omega
    · exact Nat.le_refl _
theorem remOf_pos (t : ByteArray) (h0 : 0 < t.size) (hc : (Utf8.decode t 0).1 = 35) (h : ¬ 0 ≤ (remOf t).2) : 1 ≤ (remOf t).1 := by
  have hb : (Utf8.decode t 0) = (byteAt t 0, 1) := decode_byte t 0 h0 (by omega)
  obtain ⟨f, hf⟩ : ∃ f, t.size = f + 1 := ⟨t.size - 1, by omega⟩
  unfold remOf at h ⊢
  rw [hf] at h ⊢
  have h35 : byteAt t 0 = 35 := by rw [hb] at hc; exact hc
  rw [remGo_more t f 0 ⟨h0, by omega⟩ (by rw [hc]; omega)] at h ⊢
  have := remGo_ge t f _ h
  rw [hb] at this
  rw [hb]
  simpa using this
theorem whereGo_bd (s : ByteArray) (a : Int) : ∀ (f pos : Nat) (here : Int × Int), pos ≤ s.size → (0 ≤ here.1 ∧ 0 ≤ here.2 ∧ here.1 ≤ pos + 1 ∧ here.2 ≤ pos + 1) → (0 ≤ (whereGo s f pos here a).1 ∧ 0 ≤ (whereGo s f pos here a).2)
  | 0, pos, here, h1, h => ⟨h.1, h.2.1⟩
  | f + 1, pos, here, h1, h => by
    unfold whereGo
    split
    · rename_i hp
      have w1 := width_pos s pos hp
      have w2 := decode_fits s pos hp
      split
      · exact ⟨h.1, h.2.1⟩
      · have hb := nextP_bd here (Utf8.decode s pos).1 pos h
        exact whereGo_bd s a f _ _ w2 ⟨hb.1, hb.2.1, by omega, by omega⟩
    · exact ⟨h.1, h.2.1⟩

structure AtRef (w wr : World) (v : Value) (acc : List Tok) : Prop where
  fault : wr.heap[w.heap.size]? = some (.cells #[.int .i64 0, .int .i64 0, .int .i64 0] 31 (0, 0))
  own : wr.ownsRow (w.heap.size + 1) 66 4 v acc.length (toksCells acc)
  below : Below w.heap.size w wr
section
variable {w wr wr' : World} {v : Value} {acc : List Tok}
theorem AtRef.lt (h : AtRef w wr v acc) : w.heap.size < wr.heap.size := heap_lt h.fault
theorem AtRef.later (h : AtRef w wr v acc) (hb : Below wr.heap.size wr wr') : AtRef w wr' v acc :=
  ⟨(hb.block _ h.lt).trans h.fault, ownsRow_later h.own hb, h.below.trans (hb.mono (Nat.le_of_lt h.lt))⟩
theorem AtRef.alloc (h : AtRef w wr v acc) (o : Obj) : AtRef w (wr.alloc o) v acc := h.later ((Below.refl _ _).alloc (Nat.le_refl _) _)
theorem AtRef.drew (h : AtRef w wr v acc) : AtRef w wr.drew v acc := h.later (Below.refl _ _).drew
theorem AtRef.grown (h : AtRef w wr v acc) {v' : Value} {acc' : List Tok} (ho : wr'.ownsRow (w.heap.size + 1) 66 4 v' acc'.length (toksCells acc')) (hg : wr.grownBy wr' v.ownBlock) : AtRef w wr' v' acc' := by
  have hr : ∀ k, v.ownBlock = some k → w.heap.size + 1 ≤ k := fun k hk => (h.own.lt k hk).1
  have hl := h.lt
  exact ⟨(hg.block _ hl (fun e => by have := hr _ e.symm; omega)).trans h.fault, ho, h.below.grown hg (by omega) (fun k hk => by have := hr k hk; omega)⟩
theorem AtRef.faults (h : AtRef w wr v acc) : wr.cell? ⟨w.heap.size, 0, none⟩ = some (.int .i64 0) ∧ wr.cell? ⟨w.heap.size, 1, none⟩ = some (.int .i64 0) ∧ wr.cell? ⟨w.heap.size, 2, none⟩ = some (.int .i64 0) ∧
    wr.frozen? ⟨w.heap.size, 0, none⟩ = false ∧ wr.frozen? ⟨w.heap.size, 1, none⟩ = false ∧ wr.frozen? ⟨w.heap.size, 2, none⟩ = false :=
  ⟨by rw [cell_blk h.fault]; rfl, by rw [cell_blk h.fault]; rfl, by rw [cell_blk h.fault]; rfl, free_blk h.fault, free_blk h.fault, free_blk h.fault⟩
theorem AtRef.out (h : AtRef w wr v acc) (a b c : Int) : Below w.heap.size w (((wr.setCell ⟨w.heap.size, 0, none⟩ (.int .i64 a)).setCell ⟨w.heap.size, 1, none⟩ (.int .i64 b)).setCell ⟨w.heap.size, 2, none⟩ (.int .i64 c)) :=
  ((h.below.setCell (p := ⟨w.heap.size, 0, none⟩) (Nat.le_refl _) _).setCell (p := ⟨w.heap.size, 1, none⟩) (Nat.le_refl _) _).setCell (p := ⟨w.heap.size, 2, none⟩) (Nat.le_refl _) _
end

theorem behind_pos (u : ByteArray) (h : letB (decodeGo u).1 = true) : 0 < (decodeGo u).2 := by
  unfold decodeGo at h ⊢
  split
  · rename_i hz
    rw [if_pos hz] at h
    exact absurd h (by rw [show letB (((65533, 0) : Nat × Nat).1 : Int) = false from letB_err]; simp)
  · exact width_pos u 0 (by omega)

set_option maxHeartbeats 8000000 in
set_option maxRecDepth 100000 in
theorem rtokens_small (s : ByteArray) (w : World) (hs : s.size ≤ 65536) (hT : Tabs w) :
    Calls Tryz.prog 20 #[.string s] w (Answers w (refOf s)) := by
  have hd : decide ((65536 : Int) < (s.size : Int)) = false := by simp; omega
  have HO : Hid (refOf s = refGo s s.size 0 []) := by unfold refOf; rw [if_neg (by omega)]; exact rfl
  obtain ⟨i0, hi0, hz0, hz1, hz2⟩ := info_parts tok_info
  go_enter Tryz.func20, Tryz.ntmps20
  go_wp2
  go_loopw [4, 5] (fun v4 vp wr => ∃ (pos fuel : Nat) (acc : List Tok), vp = .int .i64 pos ∧ AtRef w wr v4 acc ∧ refGo s fuel pos acc = refOf s ∧ s.size ≤ pos + fuel ∧ pos ≤ s.size ∧ acc.length ≤ pos) (fun _ vp _ => s.size - (RowKit.intOf vp).toNat)
  case atStart =>
    exact ⟨0, s.size, [], rfl, ⟨heap_alloc_new w _, World.ownsRow_nil _ _ _ _, (Below.refl _ w).alloc (Nat.le_refl _) _⟩, HO.out.symm, by omega, by omega, by simp⟩
  case round =>
    obtain ⟨pos, fuel, acc, rfl, hat, hgo, hfu, hpos, hal⟩ := hrel
    by_cases hp : pos < s.size
    · have hwd := width_pos s pos hp
      have hwf := decode_fits s pos hp
      have hd1 := decode_le s pos
      obtain ⟨f, rfl⟩ : ∃ f, fuel = f + 1 := ⟨fuel - 1, by omega⟩
      have hxs : (s.extract pos s.size).size = s.size - pos := by simp
      have hxm : (s.extract pos s.size).size ≤ maxLen := by unfold maxLen; omega
      have hdec := fun W hW => decode_at_any s pos hp W hW
      have hwh := fun W hW => rWhere_any s (pos : Int) W (by omega) hW
      have hrm := fun W hW => rremark_any (s.extract pos s.size) W hxm hW
      have hwo := fun W hW => rword_any (s.extract pos s.size) W hxm hW
      have hnu := fun W => rnumber_any (s.extract pos s.size) W hxm
      have hbl : ∀ b, blankB (Utf8.decode s pos).1 = b → blankB (Utf8.decode s pos).1 = b := fun _ h => h
      have g1 := refGo_blank s f pos acc hp
      have g2 := refGo_bad s f pos acc hp
      have g3 := refGo_remark s f pos acc hp
      have g4 := refGo_tok s f pos acc hp
      have g5 := refGo_fault s f pos acc hp
      rw [hgo] at g1 g2 g3 g4 g5
      have hrl := remOf_le (s.extract pos s.size)
      have hwl := wordOf_le (s.extract pos s.size)
      have hnl := numOf_le (s.extract pos s.size)
      rw [hxs] at hrl hwl hnl
      have hrp : (Utf8.decode s pos).1 = 35 → ¬ 0 ≤ (remOf (s.extract pos s.size)).2 → 1 ≤ (remOf (s.extract pos s.size)).1 := fun h => remOf_pos _ (by omega) (by rw [tail_decode]; simpa using h)
      have hb0 : byteAt (s.extract pos s.size) 0 = byteAt s pos := byteAt_extract s pos s.size 0 (by omega) (Nat.le_refl _)
      have hnp : 0 < (numOf (s.extract pos s.size)).1 ↔ digB (Utf8.decode s pos).1 = true := by rw [numOf_pos _ (by omega), hb0, digB_decode s pos hp]
      have hal0 := numOf_alone (s.extract pos s.size)
      rw [extract_extract s pos 0 s.size _ (by omega), Nat.add_zero] at hal0
      have hgr := fun W => rgreat_any (s.extract pos (pos + (numOf (s.extract pos s.size)).1)) W (by simp [maxLen]; omega) hal0.1
      rw [hal0.2] at hgr
      have hbe : behindR (s.extract pos s.size) (numOf (s.extract pos s.size)).1 = (decodeGo (s.extract (pos + (numOf (s.extract pos s.size)).1) s.size)).1 := by
        unfold behindR
        rw [hxs, extract_extract s pos _ s.size _ (by omega)]
        congr 3
        omega
      have hbp := behind_pos (s.extract (pos + (numOf (s.extract pos s.size)).1) s.size)
      have hbd := fun W hW => decode_any (s.extract (pos + (numOf (s.extract pos s.size)).1) s.size) W hW
      have hmk := markR_at s pos hp
      have hw1 : ∀ r : Nat, (Utf8.decode s pos).1 = r → r < 128 → (Utf8.decode s pos).2 = 1 := fun r h h2 => by
        rw [decode_byte s pos hp (by omega)]
      have h48 : byteAt s pos = 48 ↔ (Utf8.decode s pos).1 = 48 := by
        by_cases hb : byteAt s pos < 128
        · rw [decode_low s pos hp hb]
        · have := decode_wide s pos hp (by omega)
          omega
      have hspec : tokOf (s.extract pos s.size) = if 0 < (wordOf (s.extract pos s.size)).1 then (if 24 < (wordOf (s.extract pos s.size)).2 then (0, 0, 3) else (1, (wordOf (s.extract pos s.size)).1, 0))
        else if 0 < (numOf (s.extract pos s.size)).1 then (if numFault (s.extract pos s.size) (numOf (s.extract pos s.size)).1 (numOf (s.extract pos s.size)).2 = 0 then (2, (numOf (s.extract pos s.size)).1, 0) else (0, 0, numFault (s.extract pos s.size) (numOf (s.extract pos s.size)).1 (numOf (s.extract pos s.size)).2))
        else if markB (byteAt (s.extract pos s.size) 0) then (3, 1, 0) else (0, 0, 4) := rfl
      have hf3 : 99999 < (numOf (s.extract pos s.size)).2 → numFault (s.extract pos s.size) (numOf (s.extract pos s.size)).1 (numOf (s.extract pos s.size)).2 = 3 := fun h => by unfold numFault; rw [if_pos h]
      have hf5 : ¬ 99999 < (numOf (s.extract pos s.size)).2 → ((Utf8.decode s pos).1 = 48 ∧ 1 < (numOf (s.extract pos s.size)).1) → numFault (s.extract pos s.size) (numOf (s.extract pos s.size)).1 (numOf (s.extract pos s.size)).2 = 5 := fun h h2 => by
        unfold numFault; rw [if_neg h, if_pos ⟨by rw [hb0]; exact h48.2 h2.1, h2.2⟩]
      have hf6 : ¬ 99999 < (numOf (s.extract pos s.size)).2 → ¬ ((Utf8.decode s pos).1 = 48 ∧ 1 < (numOf (s.extract pos s.size)).1) → numFault (s.extract pos s.size) (numOf (s.extract pos s.size)).1 (numOf (s.extract pos s.size)).2 = (if letB (decodeGo (s.extract (pos + (numOf (s.extract pos s.size)).1) s.size)).1 then 5 else 0) := fun h h2 => by
        unfold numFault; rw [if_neg h, if_neg (fun h3 => h2 ⟨h48.1 (by rw [← hb0]; exact h3.1), h3.2⟩), hbe]
      rw [hb0, ← hmk] at hspec
      have hbr : (decodeGo (s.extract (pos + (numOf (s.extract pos s.size)).1) s.size)).1 ≤ 2147483647 := by rw [← hbe]; exact behindR_le _ _
      clear hgo hal0 hbe hb0 hmk h48 hxm
      generalize tokOf (s.extract pos s.size) = tk at *
      generalize numFault (s.extract pos s.size) (numOf (s.extract pos s.size)).1 (numOf (s.extract pos s.size)).2 = nf at *
      generalize remOf (s.extract pos s.size) = rm at *
      generalize wordOf (s.extract pos s.size) = wo at *
      generalize numOf (s.extract pos s.size) = nu at *
      generalize decodeGo (s.extract (pos + nu.1) s.size) = bd at *
      have hwp := whereGo_bd s pos s.size 0 (1, 1) (by omega) (by simp)
      change 0 ≤ (whereOf s pos).1 ∧ 0 ≤ (whereOf s pos).2 at hwp
      generalize whereOf s (pos : Int) = here at *
      generalize (Utf8.decode s pos).1 = r at *
      generalize (Utf8.decode s pos).2 = n at *
      obtain ⟨rm1, rm2⟩ := rm
      obtain ⟨wa, wb⟩ := wo
      obtain ⟨na, nb⟩ := nu
      obtain ⟨br, bn⟩ := bd
      have hwv := fun W hW => rWhere_any s ((pos : Int) + rm2) W (by omega) hW
      simp only [] at *
      have HRP := Lib.hid hrp
      have HD := Lib.hid hdec
      have HW := Lib.hid hwh
      have HWV := Lib.hid hwv
      have HRM := Lib.hid hrm
      have HWO := Lib.hid hwo
      have HNU := Lib.hid hnu
      have HGR := Lib.hid hgr
      have HBD := Lib.hid hbd
      have HBP := Lib.hid hbp
      have HNP := Lib.hid hnp
      have HW1 := Lib.hid (hw1 r rfl)
      have HS := Lib.hid hspec
      have HF3 := Lib.hid hf3
      have HF5 := Lib.hid hf5
      have HF6 := Lib.hid hf6
      have G1 := Lib.hid g1
      have G2 := Lib.hid g2
      have G3 := Lib.hid g3
      have G4 := Lib.hid g4
      have G5 := Lib.hid g5
      clear hrp hdec hwh hwv hrm hwo hnu hgr hbd hbp hnp hw1 hspec hf3 hf5 hf6 g1 g2 g3 g4 g5 hbl
      have HAT := Lib.hid hat
      have hltw := hat.lt
      have hT0 := hT.below hat.below
      clear hat
      by_cases hb32 : r = 32
      · have hbl : blankB r = true := by rw [hb32]; rfl
        have HR := Lib.hid (G1.out hbl)
        have q32 : ((r : Int) == 32) = true := by simp; omega
        clear hb32
        go_wp2_with fail
        refine (HD.out _ hT0).mono ?_
        rintro e w1 ⟨rfl, b1⟩
        have T1 := hT0.below b1
        go_wp2_with fail
        refine (HW.out _ T1).mono ?_
        rintro e w2 ⟨rfl, b2⟩
        have T2 := T1.below b2
        have hat2 := (HAT.out.later b1).later b2
        have hat3 := hat2.alloc (.cells #[.int .i64 here.1, .int .i64 here.2] 29)
        have T3 := T2.alloc (.cells #[.int .i64 here.1, .int .i64 here.2] 29)
        have hH3 := heap_alloc_new w2 (.cells #[.int .i64 here.1, .int .i64 here.2] 29)
        have hat9 := hat3
        go_wp2
        go_roundw
        case rel => exact ⟨pos + 1, f, acc, by go_num, hat9, HR.out.symm, by omega, by omega, by omega⟩
        case measure => simp [RowKit.intOf]; omega
      have q32 : ((r : Int) == 32) = false := by simp; omega
      by_cases hb9 : r = 9
      · have hbl : blankB r = true := by rw [hb9]; rfl
        have HR := Lib.hid (G1.out hbl)
        have q9 : ((r : Int) == 9) = true := by simp; omega
        clear hb9
        go_wp2_with fail
        refine (HD.out _ hT0).mono ?_
        rintro e w1 ⟨rfl, b1⟩
        have T1 := hT0.below b1
        go_wp2_with fail
        refine (HW.out _ T1).mono ?_
        rintro e w2 ⟨rfl, b2⟩
        have T2 := T1.below b2
        have hat2 := (HAT.out.later b1).later b2
        have hat3 := hat2.alloc (.cells #[.int .i64 here.1, .int .i64 here.2] 29)
        have T3 := T2.alloc (.cells #[.int .i64 here.1, .int .i64 here.2] 29)
        have hH3 := heap_alloc_new w2 (.cells #[.int .i64 here.1, .int .i64 here.2] 29)
        have hat9 := hat3
        go_wp2
        go_roundw
        case rel => exact ⟨pos + 1, f, acc, by go_num, hat9, HR.out.symm, by omega, by omega, by omega⟩
        case measure => simp [RowKit.intOf]; omega
      have q9 : ((r : Int) == 9) = false := by simp; omega
      by_cases hb10 : r = 10
      · have hbl : blankB r = true := by rw [hb10]; rfl
        have HR := Lib.hid (G1.out hbl)
        have q10 : ((r : Int) == 10) = true := by simp; omega
        clear hb10
        go_wp2_with fail
        refine (HD.out _ hT0).mono ?_
        rintro e w1 ⟨rfl, b1⟩
        have T1 := hT0.below b1
        go_wp2_with fail
        refine (HW.out _ T1).mono ?_
        rintro e w2 ⟨rfl, b2⟩
        have T2 := T1.below b2
        have hat2 := (HAT.out.later b1).later b2
        have hat3 := hat2.alloc (.cells #[.int .i64 here.1, .int .i64 here.2] 29)
        have T3 := T2.alloc (.cells #[.int .i64 here.1, .int .i64 here.2] 29)
        have hH3 := heap_alloc_new w2 (.cells #[.int .i64 here.1, .int .i64 here.2] 29)
        have hat9 := hat3
        go_wp2
        go_roundw
        case rel => exact ⟨pos + 1, f, acc, by go_num, hat9, HR.out.symm, by omega, by omega, by omega⟩
        case measure => simp [RowKit.intOf]; omega
      have q10 : ((r : Int) == 10) = false := by simp; omega
      by_cases hb13 : r = 13
      · have hbl : blankB r = true := by rw [hb13]; rfl
        have HR := Lib.hid (G1.out hbl)
        have q13 : ((r : Int) == 13) = true := by simp; omega
        clear hb13
        go_wp2_with fail
        refine (HD.out _ hT0).mono ?_
        rintro e w1 ⟨rfl, b1⟩
        have T1 := hT0.below b1
        go_wp2_with fail
        refine (HW.out _ T1).mono ?_
        rintro e w2 ⟨rfl, b2⟩
        have T2 := T1.below b2
        have hat2 := (HAT.out.later b1).later b2
        have hat3 := hat2.alloc (.cells #[.int .i64 here.1, .int .i64 here.2] 29)
        have T3 := T2.alloc (.cells #[.int .i64 here.1, .int .i64 here.2] 29)
        have hH3 := heap_alloc_new w2 (.cells #[.int .i64 here.1, .int .i64 here.2] 29)
        have hat9 := hat3
        go_wp2
        go_roundw
        case rel => exact ⟨pos + 1, f, acc, by go_num, hat9, HR.out.symm, by omega, by omega, by omega⟩
        case measure => simp [RowKit.intOf]; omega
      have q13 : ((r : Int) == 13) = false := by simp; omega
      have hbl : blankB r = false := by simp [blankB]; omega
      clear hb32 hb9 hb10 hb13
      by_cases h35 : r = 35
      · have q35 : ((r : Int) == 35) = true := by simp; omega
        by_cases hrm : 0 ≤ rm2
        · have HR := Lib.hid (G2.out hbl h35 hrm)
          clear h35
          go_wp2_with fail
          refine (HD.out _ hT0).mono ?_
          rintro e w1 ⟨rfl, b1⟩
          have T1 := hT0.below b1
          go_wp2_with fail
          refine (HW.out _ T1).mono ?_
          rintro e w2 ⟨rfl, b2⟩
          have T2 := T1.below b2
          have hat2 := (HAT.out.later b1).later b2
          have hat3 := hat2.alloc (.cells #[.int .i64 here.1, .int .i64 here.2] 29)
          have T3 := T2.alloc (.cells #[.int .i64 here.1, .int .i64 here.2] 29)
          have hH3 := heap_alloc_new w2 (.cells #[.int .i64 here.1, .int .i64 here.2] 29)
          go_wp2_with fail
          refine (HRM.out _ T3).mono ?_
          rintro e w4 ⟨rfl, b4⟩
          have T4 := T3.below b4
          have hat4 := hat3.later b4
          have hH4 := (b4.block _ (heap_lt hH3)).trans hH3
          go_wp2_with fail
          refine (HWV.out _ T4).mono ?_
          rintro e w5 ⟨rfl, b5⟩
          have hat5 := hat4.later b5
          obtain ⟨e0, e1, e2, d0, d1, d2⟩ := hat5.faults
          go_wp2
          refine bodyPost_ret (v := .tuple #[.slice none 0 0, .agg #[.int .i64 4, .int .i64 (whereOf s ((pos : Int) + rm2)).1, .int .i64 (whereOf s ((pos : Int) + rm2)).2]]) (by simp [results, Tryz.results20, go_sem, e0, e1, e2]) rfl ?_
          rw [HR.out]
          exact ⟨_, rfl, World.ownsRow_nil _ _ _ _, hat5.out _ _ _⟩
        · have HR := Lib.hid (G3.out hbl h35 hrm)
          have hrq := HRP.out h35 hrm
          clear h35
          go_wp2_with fail
          refine (HD.out _ hT0).mono ?_
          rintro e w1 ⟨rfl, b1⟩
          have T1 := hT0.below b1
          go_wp2_with fail
          refine (HW.out _ T1).mono ?_
          rintro e w2 ⟨rfl, b2⟩
          have T2 := T1.below b2
          have hat2 := (HAT.out.later b1).later b2
          have hat3 := hat2.alloc (.cells #[.int .i64 here.1, .int .i64 here.2] 29)
          have T3 := T2.alloc (.cells #[.int .i64 here.1, .int .i64 here.2] 29)
          have hH3 := heap_alloc_new w2 (.cells #[.int .i64 here.1, .int .i64 here.2] 29)
          go_wp2_with fail
          refine (HRM.out _ T3).mono ?_
          rintro e w4 ⟨rfl, b4⟩
          have T4 := T3.below b4
          have hat4 := hat3.later b4
          have hH4 := (b4.block _ (heap_lt hH3)).trans hH3
          have hat9 := hat4
          go_wp2
          go_roundw
          case rel => exact ⟨pos + rm1, f, acc, by go_num, hat9, HR.out.symm, by omega, by omega, by omega⟩
          case measure => simp [RowKit.intOf]; omega
      · have q35 : ((r : Int) == 35) = false := by simp; omega
        by_cases hwa : 0 < wa
        · by_cases hwb : 24 < wb
          · have ht : tk = (0, 0, 3) := by rw [HS.out, if_pos hwa, if_pos hwb]
            have HR : Hid (refOf s = ([], 3, here)) := by
              have := G5.out hbl h35 (by rw [ht]; simp)
              rw [ht] at this
              exact this
            clear h35 ht
            go_wp2_with fail
            refine (HD.out _ hT0).mono ?_
            rintro e w1 ⟨rfl, b1⟩
            have T1 := hT0.below b1
            go_wp2_with fail
            refine (HW.out _ T1).mono ?_
            rintro e w2 ⟨rfl, b2⟩
            have T2 := T1.below b2
            have hat2 := (HAT.out.later b1).later b2
            have hat3 := hat2.alloc (.cells #[.int .i64 here.1, .int .i64 here.2] 29)
            have T3 := T2.alloc (.cells #[.int .i64 here.1, .int .i64 here.2] 29)
            have hH3 := heap_alloc_new w2 (.cells #[.int .i64 here.1, .int .i64 here.2] 29)
            go_wp2_with fail
            refine (HWO.out _ T3).mono ?_
            rintro e w4 ⟨rfl, b4⟩
            have T4 := T3.below b4
            have hat4 := hat3.later b4
            have hH4 := (b4.block _ (heap_lt hH3)).trans hH3
            have c0 := cell_blk (i := 0) hH4
            have c1 := cell_blk (i := 1) hH4
            simp at c0 c1
            obtain ⟨e0, e1, e2, d0, d1, d2⟩ := hat4.faults
            go_wp2
            go_region
            go_wp2
            refine bodyPost_ret (v := .tuple #[.slice none 0 0, .agg #[.int .i64 3, .int .i64 here.1, .int .i64 here.2]]) (by simp [results, Tryz.results20, go_sem, c0, c1, e0, e1, e2]) rfl ?_
            rw [HR.out]
            exact ⟨_, rfl, World.ownsRow_nil _ _ _ _, (hat4.out _ _ _).drew⟩
          · have ht : tk = (1, wa, 0) := by rw [HS.out, if_pos hwa, if_neg hwb]
            have HR : Hid (refOf s = refGo s f (pos + wa) (acc ++ [⟨1, s.extract pos (pos + wa), here⟩])) := by
              have := G4.out hbl h35 (by rw [ht])
              rw [ht] at this
              exact this
            clear h35 ht
            go_wp2_with fail
            refine (HD.out _ hT0).mono ?_
            rintro e w1 ⟨rfl, b1⟩
            have T1 := hT0.below b1
            go_wp2_with fail
            refine (HW.out _ T1).mono ?_
            rintro e w2 ⟨rfl, b2⟩
            have T2 := T1.below b2
            have hat2 := (HAT.out.later b1).later b2
            have hat3 := hat2.alloc (.cells #[.int .i64 here.1, .int .i64 here.2] 29)
            have T3 := T2.alloc (.cells #[.int .i64 here.1, .int .i64 here.2] 29)
            have hH3 := heap_alloc_new w2 (.cells #[.int .i64 here.1, .int .i64 here.2] 29)
            go_wp2_with fail
            refine (HWO.out _ T3).mono ?_
            rintro e w4 ⟨rfl, b4⟩
            have T4 := T3.below b4
            have hat4 := hat3.later b4
            have hH4 := (b4.block _ (heap_lt hH3)).trans hH3
            have c0 := cell_blk (i := 0) hH4
            have c1 := cell_blk (i := 1) hH4
            simp at c0 c1
            have s1 : IntKind.i64.wrap ((pos : Int) + (wa : Nat)) = (pos : Int) + (wa : Nat) := IntWalk.i64_in _ (by omega)
            have s2 : (0 : Int) ≤ (pos : Int) + (wa : Nat) := by omega
            have s3 : ((pos : Int) + (wa : Nat)).toNat = pos + wa := by omega
            have s4 : (pos : Int) + (wa : Nat) ≤ (s.size : Int) := by omega
            have s5 : (pos : Int) ≤ (pos : Int) + (wa : Nat) := by omega
            have hbb := hat4.lt
            have hHl := heap_lt hH4
            have hHn := hat2.own.lt
            have hHn2 := hat2.lt
            have HHN := Lib.hid hHn
            have Hm : Hid (pos ≤ 65536) := by unfold Hid; omega
            have HAT4 := Lib.hid hat4
            clear hHn
            go_wp2_with fail
            go_region_held3 (fun w' => w'.cell? ⟨w2.heap.size, 0, none⟩ = some (.int .i64 here.1) ∧ w'.cell? ⟨w2.heap.size, 1, none⟩ = some (.int .i64 here.2))
              (first
                | go_keep
                | (go_split_ands; refine ⟨?_, ?_⟩ <;> (rw [hgrow.cell_far _ (by simp; omega) (fun e => absurd (HHN.out _ e.symm).2 (Nat.lt_irrefl _))]; assumption)))
              (first
                | (refine step_append_lies _ (by rfl) _ _ _ (by rfl) (w.heap.size + 1) 66 i0 _ 4 40 Tryz.underlying56 hi0 hz0 hz1 hz2 rfl (by omega) _ acc.length (toksCells acc) (by rfl) ((HAT4.out.alloc _).drew.own) ⟨w4.heap.size, 0, none⟩ 1 1 (Tok.cells ⟨1, s.extract pos (pos + wa), here⟩) (by rfl) (by rfl) (World.news_of_block (cs := #[.int .u8 1, .string (s.extract pos (pos + wa)), .int .i64 here.1, .int .i64 here.2]) (t := 66) (fr := (0, 0)) (heap_alloc_new _ _)) (by simp [Tok.cells, Value.oneCell']) (by omega) (by unfold maxLen; have := Hm.out; omega) (by have := Hm.out; omega) (by simp; omega) _ rfl ?_; intro g cap w9 hown9 hgrow hatq hlt))
            have hatE := ((HAT4.out.alloc (.cells #[.int .u8 1, .string (s.extract pos (pos + wa)), .int .i64 here.1, .int .i64 here.2] 66)).drew).grown (acc' := acc ++ [⟨1, s.extract pos (pos + wa), here⟩]) (by rw [toksCells_snoc, List.length_append]; exact hown9) hgrow
            go_wp2
            go_roundw
            case rel => exact ⟨pos + wa, f, _, by go_num, hatE, HR.out.symm, by omega, by omega, by rw [List.length_append]; simp; omega⟩
            case measure => simp [RowKit.intOf]; omega
        · by_cases hna : 0 < na
          · have hdg : digB r = true := HNP.out.1 hna
            by_cases hg : 99999 < nb
            · have ht : tk = (0, 0, 3) := by rw [HS.out, if_neg hwa, if_pos hna, HF3.out hg]; simp
              have HR : Hid (refOf s = ([], 3, here)) := by
                have := G5.out hbl h35 (by rw [ht]; simp)
                rw [ht] at this
                exact this
              clear h35 ht
              go_wp2_with fail
              refine (HD.out _ hT0).mono ?_
              rintro e w1 ⟨rfl, b1⟩
              have T1 := hT0.below b1
              go_wp2_with fail
              refine (HW.out _ T1).mono ?_
              rintro e w2 ⟨rfl, b2⟩
              have T2 := T1.below b2
              have hat2 := (HAT.out.later b1).later b2
              have hat3 := hat2.alloc (.cells #[.int .i64 here.1, .int .i64 here.2] 29)
              have T3 := T2.alloc (.cells #[.int .i64 here.1, .int .i64 here.2] 29)
              have hH3 := heap_alloc_new w2 (.cells #[.int .i64 here.1, .int .i64 here.2] 29)
              go_wp2_with fail
              refine (HWO.out _ T3).mono ?_
              rintro e w4 ⟨rfl, b4⟩
              have T4 := T3.below b4
              have hat4 := hat3.later b4
              have hH4 := (b4.block _ (heap_lt hH3)).trans hH3
              go_wp2_with fail
              refine (rdigit_eq _ true hdg _).mono ?_
              rintro e ws ⟨rfl, rfl⟩
              go_wp2_with fail
              refine (HNU.out _).mono ?_
              rintro e w5 ⟨rfl, b5⟩
              have T5 := T4.below b5
              have hat5 := hat4.later b5
              have hH5 := (b5.block _ (heap_lt hH4)).trans hH4
              have s1 : IntKind.i64.wrap ((pos : Int) + (na : Nat)) = (pos : Int) + (na : Nat) := IntWalk.i64_in _ (by omega)
              have s2 : (0 : Int) ≤ (pos : Int) + (na : Nat) := by omega
              have s3 : ((pos : Int) + (na : Nat)).toNat = pos + na := by omega
              have s4 : (pos : Int) + (na : Nat) ≤ (s.size : Int) := by omega
              have s5 : (pos : Int) ≤ (pos : Int) + (na : Nat) := by omega
              go_wp2_with fail
              refine (HGR.out _).mono ?_
              rintro e w6 ⟨rfl, b6⟩
              have T6 := T5.below b6
              have hat6 := hat5.later b6
              have hH6 := (b6.block _ (heap_lt hH5)).trans hH5
              have c0 := cell_blk (i := 0) hH6
              have c1 := cell_blk (i := 1) hH6
              simp at c0 c1
              obtain ⟨e0, e1, e2, d0, d1, d2⟩ := hat6.faults
              go_wp2
              go_region
              go_wp2
              refine bodyPost_ret (v := .tuple #[.slice none 0 0, .agg #[.int .i64 3, .int .i64 here.1, .int .i64 here.2]]) (by simp [results, Tryz.results20, go_sem, c0, c1, e0, e1, e2]) rfl ?_
              rw [HR.out]
              exact ⟨_, rfl, World.ownsRow_nil _ _ _ _, (hat6.out _ _ _).drew⟩
            · by_cases hz : r = 48 ∧ 1 < na
              · have ht : tk = (0, 0, 5) := by rw [HS.out, if_neg hwa, if_pos hna, HF5.out hg hz]; simp
                have HR : Hid (refOf s = ([], 5, here)) := by
                  have := G5.out hbl h35 (by rw [ht]; simp)
                  rw [ht] at this
                  exact this
                have q48 : ((r : Int) == 48) = true := by simp; omega
                have q1n : (1 : Int) < (na : Int) := by omega
                clear h35 ht hz
                go_wp2_with fail
                refine (HD.out _ hT0).mono ?_
                rintro e w1 ⟨rfl, b1⟩
                have T1 := hT0.below b1
                go_wp2_with fail
                refine (HW.out _ T1).mono ?_
                rintro e w2 ⟨rfl, b2⟩
                have T2 := T1.below b2
                have hat2 := (HAT.out.later b1).later b2
                have hat3 := hat2.alloc (.cells #[.int .i64 here.1, .int .i64 here.2] 29)
                have T3 := T2.alloc (.cells #[.int .i64 here.1, .int .i64 here.2] 29)
                have hH3 := heap_alloc_new w2 (.cells #[.int .i64 here.1, .int .i64 here.2] 29)
                go_wp2_with fail
                refine (HWO.out _ T3).mono ?_
                rintro e w4 ⟨rfl, b4⟩
                have T4 := T3.below b4
                have hat4 := hat3.later b4
                have hH4 := (b4.block _ (heap_lt hH3)).trans hH3
                go_wp2_with fail
                refine (rdigit_eq _ true hdg _).mono ?_
                rintro e ws ⟨rfl, rfl⟩
                go_wp2_with fail
                refine (HNU.out _).mono ?_
                rintro e w5 ⟨rfl, b5⟩
                have T5 := T4.below b5
                have hat5 := hat4.later b5
                have hH5 := (b5.block _ (heap_lt hH4)).trans hH4
                have s1 : IntKind.i64.wrap ((pos : Int) + (na : Nat)) = (pos : Int) + (na : Nat) := IntWalk.i64_in _ (by omega)
                have s2 : (0 : Int) ≤ (pos : Int) + (na : Nat) := by omega
                have s3 : ((pos : Int) + (na : Nat)).toNat = pos + na := by omega
                have s4 : (pos : Int) + (na : Nat) ≤ (s.size : Int) := by omega
                have s5 : (pos : Int) ≤ (pos : Int) + (na : Nat) := by omega
                go_wp2_with fail
                refine (HGR.out _).mono ?_
                rintro e w6 ⟨rfl, b6⟩
                have T6 := T5.below b6
                have hat6 := hat5.later b6
                have hH6 := (b6.block _ (heap_lt hH5)).trans hH5
                go_wp2_with fail
                refine (HBD.out _ T6).mono ?_
                rintro e w7 ⟨rfl, b7⟩
                have T7 := T6.below b7
                have hat7 := hat6.later b7
                have hH7 := (b7.block _ (heap_lt hH6)).trans hH6
                have c0 := cell_blk (i := 0) hH7
                have c1 := cell_blk (i := 1) hH7
                simp at c0 c1
                obtain ⟨e0, e1, e2, d0, d1, d2⟩ := hat7.faults
                go_wp2
                go_region
                go_wp2
                refine bodyPost_ret (v := .tuple #[.slice none 0 0, .agg #[.int .i64 5, .int .i64 here.1, .int .i64 here.2]]) (by simp [results, Tryz.results20, go_sem, c0, c1, e0, e1, e2]) rfl ?_
                rw [HR.out]
                exact ⟨_, rfl, World.ownsRow_nil _ _ _ _, (hat7.out _ _ _).drew⟩
              · cases hlb : letB br with
                | true =>
                  have ht : tk = (0, 0, 5) := by rw [HS.out, if_neg hwa, if_pos hna, HF6.out hg hz, hlb]; simp
                  have HR : Hid (refOf s = ([], 5, here)) := by
                    have := G5.out hbl h35 (by rw [ht]; simp)
                    rw [ht] at this
                    exact this
                  have hbn := HBP.out hlb
                  clear h35 ht
                  by_cases q1n : 1 < na
                  · have q48 : ((r : Int) == 48) = false := by simp; omega
                    clear hz
                    go_wp2_with fail
                    refine (HD.out _ hT0).mono ?_
                    rintro e w1 ⟨rfl, b1⟩
                    have T1 := hT0.below b1
                    go_wp2_with fail
                    refine (HW.out _ T1).mono ?_
                    rintro e w2 ⟨rfl, b2⟩
                    have T2 := T1.below b2
                    have hat2 := (HAT.out.later b1).later b2
                    have hat3 := hat2.alloc (.cells #[.int .i64 here.1, .int .i64 here.2] 29)
                    have T3 := T2.alloc (.cells #[.int .i64 here.1, .int .i64 here.2] 29)
                    have hH3 := heap_alloc_new w2 (.cells #[.int .i64 here.1, .int .i64 here.2] 29)
                    go_wp2_with fail
                    refine (HWO.out _ T3).mono ?_
                    rintro e w4 ⟨rfl, b4⟩
                    have T4 := T3.below b4
                    have hat4 := hat3.later b4
                    have hH4 := (b4.block _ (heap_lt hH3)).trans hH3
                    go_wp2_with fail
                    refine (rdigit_eq _ true hdg _).mono ?_
                    rintro e ws ⟨rfl, rfl⟩
                    go_wp2_with fail
                    refine (HNU.out _).mono ?_
                    rintro e w5 ⟨rfl, b5⟩
                    have T5 := T4.below b5
                    have hat5 := hat4.later b5
                    have hH5 := (b5.block _ (heap_lt hH4)).trans hH4
                    have s1 : IntKind.i64.wrap ((pos : Int) + (na : Nat)) = (pos : Int) + (na : Nat) := IntWalk.i64_in _ (by omega)
                    have s2 : (0 : Int) ≤ (pos : Int) + (na : Nat) := by omega
                    have s3 : ((pos : Int) + (na : Nat)).toNat = pos + na := by omega
                    have s4 : (pos : Int) + (na : Nat) ≤ (s.size : Int) := by omega
                    have s5 : (pos : Int) ≤ (pos : Int) + (na : Nat) := by omega
                    go_wp2_with fail
                    refine (HGR.out _).mono ?_
                    rintro e w6 ⟨rfl, b6⟩
                    have T6 := T5.below b6
                    have hat6 := hat5.later b6
                    have hH6 := (b6.block _ (heap_lt hH5)).trans hH5
                    go_wp2_with fail
                    refine (HBD.out _ T6).mono ?_
                    rintro e w7 ⟨rfl, b7⟩
                    have T7 := T6.below b7
                    have hat7 := hat6.later b7
                    have hH7 := (b7.block _ (heap_lt hH6)).trans hH6
                    go_wp2_with fail
                    refine (isLetter_yes _ _ (by omega) (by omega) T7 hlb).mono ?_
                    rintro e w8 ⟨rfl, b8⟩
                    have T8 := T7.below b8
                    have hat8 := hat7.later b8
                    have hH8 := (b8.block _ (heap_lt hH7)).trans hH7
                    have c0 := cell_blk (i := 0) hH8
                    have c1 := cell_blk (i := 1) hH8
                    simp at c0 c1
                    obtain ⟨e0, e1, e2, d0, d1, d2⟩ := hat8.faults
                    go_wp2
                    go_region
                    go_wp2
                    refine bodyPost_ret (v := .tuple #[.slice none 0 0, .agg #[.int .i64 5, .int .i64 here.1, .int .i64 here.2]]) (by simp [results, Tryz.results20, go_sem, c0, c1, e0, e1, e2]) rfl ?_
                    rw [HR.out]
                    exact ⟨_, rfl, World.ownsRow_nil _ _ _ _, (hat8.out _ _ _).drew⟩
                  · clear hz
                    go_wp2_with fail
                    refine (HD.out _ hT0).mono ?_
                    rintro e w1 ⟨rfl, b1⟩
                    have T1 := hT0.below b1
                    go_wp2_with fail
                    refine (HW.out _ T1).mono ?_
                    rintro e w2 ⟨rfl, b2⟩
                    have T2 := T1.below b2
                    have hat2 := (HAT.out.later b1).later b2
                    have hat3 := hat2.alloc (.cells #[.int .i64 here.1, .int .i64 here.2] 29)
                    have T3 := T2.alloc (.cells #[.int .i64 here.1, .int .i64 here.2] 29)
                    have hH3 := heap_alloc_new w2 (.cells #[.int .i64 here.1, .int .i64 here.2] 29)
                    go_wp2_with fail
                    refine (HWO.out _ T3).mono ?_
                    rintro e w4 ⟨rfl, b4⟩
                    have T4 := T3.below b4
                    have hat4 := hat3.later b4
                    have hH4 := (b4.block _ (heap_lt hH3)).trans hH3
                    go_wp2_with fail
                    refine (rdigit_eq _ true hdg _).mono ?_
                    rintro e ws ⟨rfl, rfl⟩
                    go_wp2_with fail
                    refine (HNU.out _).mono ?_
                    rintro e w5 ⟨rfl, b5⟩
                    have T5 := T4.below b5
                    have hat5 := hat4.later b5
                    have hH5 := (b5.block _ (heap_lt hH4)).trans hH4
                    have s1 : IntKind.i64.wrap ((pos : Int) + (na : Nat)) = (pos : Int) + (na : Nat) := IntWalk.i64_in _ (by omega)
                    have s2 : (0 : Int) ≤ (pos : Int) + (na : Nat) := by omega
                    have s3 : ((pos : Int) + (na : Nat)).toNat = pos + na := by omega
                    have s4 : (pos : Int) + (na : Nat) ≤ (s.size : Int) := by omega
                    have s5 : (pos : Int) ≤ (pos : Int) + (na : Nat) := by omega
                    go_wp2_with fail
                    refine (HGR.out _).mono ?_
                    rintro e w6 ⟨rfl, b6⟩
                    have T6 := T5.below b6
                    have hat6 := hat5.later b6
                    have hH6 := (b6.block _ (heap_lt hH5)).trans hH5
                    go_wp2_with fail
                    refine (HBD.out _ T6).mono ?_
                    rintro e w7 ⟨rfl, b7⟩
                    have T7 := T6.below b7
                    have hat7 := hat6.later b7
                    have hH7 := (b7.block _ (heap_lt hH6)).trans hH6
                    go_wp2_with fail
                    refine (isLetter_yes _ _ (by omega) (by omega) T7 hlb).mono ?_
                    rintro e w8 ⟨rfl, b8⟩
                    have T8 := T7.below b8
                    have hat8 := hat7.later b8
                    have hH8 := (b8.block _ (heap_lt hH7)).trans hH7
                    have c0 := cell_blk (i := 0) hH8
                    have c1 := cell_blk (i := 1) hH8
                    simp at c0 c1
                    obtain ⟨e0, e1, e2, d0, d1, d2⟩ := hat8.faults
                    go_wp2
                    go_region
                    go_wp2
                    refine bodyPost_ret (v := .tuple #[.slice none 0 0, .agg #[.int .i64 5, .int .i64 here.1, .int .i64 here.2]]) (by simp [results, Tryz.results20, go_sem, c0, c1, e0, e1, e2]) rfl ?_
                    rw [HR.out]
                    exact ⟨_, rfl, World.ownsRow_nil _ _ _ _, (hat8.out _ _ _).drew⟩
                | false =>
                  have ht : tk = (2, na, 0) := by rw [HS.out, if_neg hwa, if_pos hna, HF6.out hg hz, hlb]; simp
                  have HR : Hid (refOf s = refGo s f (pos + na) (acc ++ [⟨2, s.extract pos (pos + na), here⟩])) := by
                    have := G4.out hbl h35 (by rw [ht])
                    rw [ht] at this
                    exact this
                  clear h35 ht
                  by_cases q1n : 1 < na
                  · have q48 : ((r : Int) == 48) = false := by simp; omega
                    clear hz
                    go_wp2_with fail
                    refine (HD.out _ hT0).mono ?_
                    rintro e w1 ⟨rfl, b1⟩
                    have T1 := hT0.below b1
                    go_wp2_with fail
                    refine (HW.out _ T1).mono ?_
                    rintro e w2 ⟨rfl, b2⟩
                    have T2 := T1.below b2
                    have hat2 := (HAT.out.later b1).later b2
                    have hat3 := hat2.alloc (.cells #[.int .i64 here.1, .int .i64 here.2] 29)
                    have T3 := T2.alloc (.cells #[.int .i64 here.1, .int .i64 here.2] 29)
                    have hH3 := heap_alloc_new w2 (.cells #[.int .i64 here.1, .int .i64 here.2] 29)
                    go_wp2_with fail
                    refine (HWO.out _ T3).mono ?_
                    rintro e w4 ⟨rfl, b4⟩
                    have T4 := T3.below b4
                    have hat4 := hat3.later b4
                    have hH4 := (b4.block _ (heap_lt hH3)).trans hH3
                    go_wp2_with fail
                    refine (rdigit_eq _ true hdg _).mono ?_
                    rintro e ws ⟨rfl, rfl⟩
                    go_wp2_with fail
                    refine (HNU.out _).mono ?_
                    rintro e w5 ⟨rfl, b5⟩
                    have T5 := T4.below b5
                    have hat5 := hat4.later b5
                    have hH5 := (b5.block _ (heap_lt hH4)).trans hH4
                    have s1 : IntKind.i64.wrap ((pos : Int) + (na : Nat)) = (pos : Int) + (na : Nat) := IntWalk.i64_in _ (by omega)
                    have s2 : (0 : Int) ≤ (pos : Int) + (na : Nat) := by omega
                    have s3 : ((pos : Int) + (na : Nat)).toNat = pos + na := by omega
                    have s4 : (pos : Int) + (na : Nat) ≤ (s.size : Int) := by omega
                    have s5 : (pos : Int) ≤ (pos : Int) + (na : Nat) := by omega
                    go_wp2_with fail
                    refine (HGR.out _).mono ?_
                    rintro e w6 ⟨rfl, b6⟩
                    have T6 := T5.below b6
                    have hat6 := hat5.later b6
                    have hH6 := (b6.block _ (heap_lt hH5)).trans hH5
                    go_wp2_with fail
                    refine (HBD.out _ T6).mono ?_
                    rintro e w7 ⟨rfl, b7⟩
                    have T7 := T6.below b7
                    have hat7 := hat6.later b7
                    have hH7 := (b7.block _ (heap_lt hH6)).trans hH6
                    go_wp2_with fail
                    refine (isLetter_no _ _ (by omega) (by omega) T7 hlb).mono ?_
                    rintro e w8 ⟨rfl, b8⟩
                    have T8 := T7.below b8
                    have hat8 := hat7.later b8
                    have hH8 := (b8.block _ (heap_lt hH7)).trans hH7
                    have c0 := cell_blk (i := 0) hH8
                    have c1 := cell_blk (i := 1) hH8
                    simp at c0 c1
                    have hbb := hat8.lt
                    have hHl := heap_lt hH8
                    have hHn := hat2.own.lt
                    have hHn2 := hat2.lt
                    have HHN := Lib.hid hHn
                    have Hm : Hid (pos ≤ 65536) := by unfold Hid; omega
                    have HAT8 := Lib.hid hat8
                    clear hHn
                    go_wp2_with fail
                    go_region_held3 (fun w' => w'.cell? ⟨w2.heap.size, 0, none⟩ = some (.int .i64 here.1) ∧ w'.cell? ⟨w2.heap.size, 1, none⟩ = some (.int .i64 here.2))
                      (first
                        | go_keep
                        | (go_split_ands; refine ⟨?_, ?_⟩ <;> (rw [hgrow.cell_far _ (by simp; omega) (fun e => absurd (HHN.out _ e.symm).2 (Nat.lt_irrefl _))]; assumption)))
                      (first
                        | (refine step_append_lies _ (by rfl) _ _ _ (by rfl) (w.heap.size + 1) 66 i0 _ 4 40 Tryz.underlying56 hi0 hz0 hz1 hz2 rfl (by omega) _ acc.length (toksCells acc) (by rfl) ((HAT8.out.alloc _).drew.own) ⟨w8.heap.size, 0, none⟩ 1 1 (Tok.cells ⟨2, s.extract pos (pos + na), here⟩) (by rfl) (by rfl) (World.news_of_block (cs := #[.int .u8 2, .string (s.extract pos (pos + na)), .int .i64 here.1, .int .i64 here.2]) (t := 66) (fr := (0, 0)) (heap_alloc_new _ _)) (by simp [Tok.cells, Value.oneCell']) (by omega) (by unfold maxLen; have := Hm.out; omega) (by have := Hm.out; omega) (by simp; omega) _ rfl ?_; intro g cap w9 hown9 hgrow hatq hlt))
                    have hatE := ((HAT8.out.alloc (.cells #[.int .u8 2, .string (s.extract pos (pos + na)), .int .i64 here.1, .int .i64 here.2] 66)).drew).grown (acc' := acc ++ [⟨2, s.extract pos (pos + na), here⟩]) (by rw [toksCells_snoc, List.length_append]; exact hown9) hgrow
                    go_wp2
                    go_roundw
                    case rel => exact ⟨pos + na, f, _, by go_num, hatE, HR.out.symm, by omega, by omega, by rw [List.length_append]; simp; omega⟩
                    case measure => simp [RowKit.intOf]; omega
                  · clear hz
                    go_wp2_with fail
                    refine (HD.out _ hT0).mono ?_
                    rintro e w1 ⟨rfl, b1⟩
                    have T1 := hT0.below b1
                    go_wp2_with fail
                    refine (HW.out _ T1).mono ?_
                    rintro e w2 ⟨rfl, b2⟩
                    have T2 := T1.below b2
                    have hat2 := (HAT.out.later b1).later b2
                    have hat3 := hat2.alloc (.cells #[.int .i64 here.1, .int .i64 here.2] 29)
                    have T3 := T2.alloc (.cells #[.int .i64 here.1, .int .i64 here.2] 29)
                    have hH3 := heap_alloc_new w2 (.cells #[.int .i64 here.1, .int .i64 here.2] 29)
                    go_wp2_with fail
                    refine (HWO.out _ T3).mono ?_
                    rintro e w4 ⟨rfl, b4⟩
                    have T4 := T3.below b4
                    have hat4 := hat3.later b4
                    have hH4 := (b4.block _ (heap_lt hH3)).trans hH3
                    go_wp2_with fail
                    refine (rdigit_eq _ true hdg _).mono ?_
                    rintro e ws ⟨rfl, rfl⟩
                    go_wp2_with fail
                    refine (HNU.out _).mono ?_
                    rintro e w5 ⟨rfl, b5⟩
                    have T5 := T4.below b5
                    have hat5 := hat4.later b5
                    have hH5 := (b5.block _ (heap_lt hH4)).trans hH4
                    have s1 : IntKind.i64.wrap ((pos : Int) + (na : Nat)) = (pos : Int) + (na : Nat) := IntWalk.i64_in _ (by omega)
                    have s2 : (0 : Int) ≤ (pos : Int) + (na : Nat) := by omega
                    have s3 : ((pos : Int) + (na : Nat)).toNat = pos + na := by omega
                    have s4 : (pos : Int) + (na : Nat) ≤ (s.size : Int) := by omega
                    have s5 : (pos : Int) ≤ (pos : Int) + (na : Nat) := by omega
                    go_wp2_with fail
                    refine (HGR.out _).mono ?_
                    rintro e w6 ⟨rfl, b6⟩
                    have T6 := T5.below b6
                    have hat6 := hat5.later b6
                    have hH6 := (b6.block _ (heap_lt hH5)).trans hH5
                    go_wp2_with fail
                    refine (HBD.out _ T6).mono ?_
                    rintro e w7 ⟨rfl, b7⟩
                    have T7 := T6.below b7
                    have hat7 := hat6.later b7
                    have hH7 := (b7.block _ (heap_lt hH6)).trans hH6
                    go_wp2_with fail
                    refine (isLetter_no _ _ (by omega) (by omega) T7 hlb).mono ?_
                    rintro e w8 ⟨rfl, b8⟩
                    have T8 := T7.below b8
                    have hat8 := hat7.later b8
                    have hH8 := (b8.block _ (heap_lt hH7)).trans hH7
                    have c0 := cell_blk (i := 0) hH8
                    have c1 := cell_blk (i := 1) hH8
                    simp at c0 c1
                    have hbb := hat8.lt
                    have hHl := heap_lt hH8
                    have hHn := hat2.own.lt
                    have hHn2 := hat2.lt
                    have HHN := Lib.hid hHn
                    have Hm : Hid (pos ≤ 65536) := by unfold Hid; omega
                    have HAT8 := Lib.hid hat8
                    clear hHn
                    go_wp2_with fail
                    go_region_held3 (fun w' => w'.cell? ⟨w2.heap.size, 0, none⟩ = some (.int .i64 here.1) ∧ w'.cell? ⟨w2.heap.size, 1, none⟩ = some (.int .i64 here.2))
                      (first
                        | go_keep
                        | (go_split_ands; refine ⟨?_, ?_⟩ <;> (rw [hgrow.cell_far _ (by simp; omega) (fun e => absurd (HHN.out _ e.symm).2 (Nat.lt_irrefl _))]; assumption)))
                      (first
                        | (refine step_append_lies _ (by rfl) _ _ _ (by rfl) (w.heap.size + 1) 66 i0 _ 4 40 Tryz.underlying56 hi0 hz0 hz1 hz2 rfl (by omega) _ acc.length (toksCells acc) (by rfl) ((HAT8.out.alloc _).drew.own) ⟨w8.heap.size, 0, none⟩ 1 1 (Tok.cells ⟨2, s.extract pos (pos + na), here⟩) (by rfl) (by rfl) (World.news_of_block (cs := #[.int .u8 2, .string (s.extract pos (pos + na)), .int .i64 here.1, .int .i64 here.2]) (t := 66) (fr := (0, 0)) (heap_alloc_new _ _)) (by simp [Tok.cells, Value.oneCell']) (by omega) (by unfold maxLen; have := Hm.out; omega) (by have := Hm.out; omega) (by simp; omega) _ rfl ?_; intro g cap w9 hown9 hgrow hatq hlt))
                    have hatE := ((HAT8.out.alloc (.cells #[.int .u8 2, .string (s.extract pos (pos + na)), .int .i64 here.1, .int .i64 here.2] 66)).drew).grown (acc' := acc ++ [⟨2, s.extract pos (pos + na), here⟩]) (by rw [toksCells_snoc, List.length_append]; exact hown9) hgrow
                    go_wp2
                    go_roundw
                    case rel => exact ⟨pos + na, f, _, by go_num, hatE, HR.out.symm, by omega, by omega, by rw [List.length_append]; simp; omega⟩
                    case measure => simp [RowKit.intOf]; omega
          · have hdg : digB r = false := by
              cases hq : digB r with
              | true => exact absurd (HNP.out.2 hq) hna
              | false => rfl
            cases hmk : markR r with
            | true =>
              have hlow : r < 128 := by
                rcases Nat.lt_or_ge r 128 with h | h
                · exact h
                · rw [markR_high r h] at hmk; cases hmk
              have hn1 := HW1.out hlow
              have ht : tk = (3, 1, 0) := by rw [HS.out, if_neg hwa, if_neg hna, hmk]; simp
              have HR : Hid (refOf s = refGo s f (pos + n) (acc ++ [⟨3, s.extract pos (pos + n), here⟩])) := by
                have := G4.out hbl h35 (by rw [ht])
                rw [ht] at this
                rw [hn1]
                exact this
              clear h35 ht hn1
              go_wp2_with fail
              refine (HD.out _ hT0).mono ?_
              rintro e w1 ⟨rfl, b1⟩
              have T1 := hT0.below b1
              go_wp2_with fail
              refine (HW.out _ T1).mono ?_
              rintro e w2 ⟨rfl, b2⟩
              have T2 := T1.below b2
              have hat2 := (HAT.out.later b1).later b2
              have hat3 := hat2.alloc (.cells #[.int .i64 here.1, .int .i64 here.2] 29)
              have T3 := T2.alloc (.cells #[.int .i64 here.1, .int .i64 here.2] 29)
              have hH3 := heap_alloc_new w2 (.cells #[.int .i64 here.1, .int .i64 here.2] 29)
              go_wp2_with fail
              refine (HWO.out _ T3).mono ?_
              rintro e w4 ⟨rfl, b4⟩
              have T4 := T3.below b4
              have hat4 := hat3.later b4
              have hH4 := (b4.block _ (heap_lt hH3)).trans hH3
              go_wp2_with fail
              refine (rdigit_eq _ false hdg _).mono ?_
              rintro e ws ⟨rfl, rfl⟩
              go_wp2_with fail
              refine (rmark_any _ _).mono ?_
              rintro e ws ⟨rfl, rfl⟩
              have c0 := cell_blk (i := 0) hH4
              have c1 := cell_blk (i := 1) hH4
              simp at c0 c1
              have s1 : IntKind.i64.wrap ((pos : Int) + (n : Nat)) = (pos : Int) + (n : Nat) := IntWalk.i64_in _ (by omega)
              have s2 : (0 : Int) ≤ (pos : Int) + (n : Nat) := by omega
              have s3 : ((pos : Int) + (n : Nat)).toNat = pos + n := by omega
              have s4 : (pos : Int) + (n : Nat) ≤ (s.size : Int) := by omega
              have s5 : (pos : Int) ≤ (pos : Int) + (n : Nat) := by omega
              have hbb := hat4.lt
              have hHl := heap_lt hH4
              have hHn := hat2.own.lt
              have hHn2 := hat2.lt
              have HHN := Lib.hid hHn
              have Hm : Hid (pos ≤ 65536) := by unfold Hid; omega
              have HAT4 := Lib.hid hat4
              clear hHn
              go_wp2_with fail
              go_region_held3 (fun w' => w'.cell? ⟨w2.heap.size, 0, none⟩ = some (.int .i64 here.1) ∧ w'.cell? ⟨w2.heap.size, 1, none⟩ = some (.int .i64 here.2))
                (first
                  | go_keep
                  | (go_split_ands; refine ⟨?_, ?_⟩ <;> (rw [hgrow.cell_far _ (by simp; omega) (fun e => absurd (HHN.out _ e.symm).2 (Nat.lt_irrefl _))]; assumption)))
                (first
                  | (refine step_append_lies _ (by rfl) _ _ _ (by rfl) (w.heap.size + 1) 66 i0 _ 4 40 Tryz.underlying56 hi0 hz0 hz1 hz2 rfl (by omega) _ acc.length (toksCells acc) (by rfl) ((HAT4.out.alloc _).drew.own) ⟨w4.heap.size, 0, none⟩ 1 1 (Tok.cells ⟨3, s.extract pos (pos + n), here⟩) (by rfl) (by rfl) (World.news_of_block (cs := #[.int .u8 3, .string (s.extract pos (pos + n)), .int .i64 here.1, .int .i64 here.2]) (t := 66) (fr := (0, 0)) (heap_alloc_new _ _)) (by simp [Tok.cells, Value.oneCell']) (by omega) (by unfold maxLen; have := Hm.out; omega) (by have := Hm.out; omega) (by simp; omega) _ rfl ?_; intro g cap w9 hown9 hgrow hatq hlt))
              have hatE := ((HAT4.out.alloc (.cells #[.int .u8 3, .string (s.extract pos (pos + n)), .int .i64 here.1, .int .i64 here.2] 66)).drew).grown (acc' := acc ++ [⟨3, s.extract pos (pos + n), here⟩]) (by rw [toksCells_snoc, List.length_append]; exact hown9) hgrow
              go_wp2
              go_roundw
              case rel => exact ⟨pos + n, f, _, by go_num, hatE, HR.out.symm, by omega, by omega, by rw [List.length_append]; simp; omega⟩
              case measure => simp [RowKit.intOf]; omega
            | false =>
              have ht : tk = (0, 0, 4) := by rw [HS.out, if_neg hwa, if_neg hna, hmk]; simp
              have HR : Hid (refOf s = ([], 4, here)) := by
                have := G5.out hbl h35 (by rw [ht]; simp)
                rw [ht] at this
                exact this
              clear h35 ht
              go_wp2_with fail
              refine (HD.out _ hT0).mono ?_
              rintro e w1 ⟨rfl, b1⟩
              have T1 := hT0.below b1
              go_wp2_with fail
              refine (HW.out _ T1).mono ?_
              rintro e w2 ⟨rfl, b2⟩
              have T2 := T1.below b2
              have hat2 := (HAT.out.later b1).later b2
              have hat3 := hat2.alloc (.cells #[.int .i64 here.1, .int .i64 here.2] 29)
              have T3 := T2.alloc (.cells #[.int .i64 here.1, .int .i64 here.2] 29)
              have hH3 := heap_alloc_new w2 (.cells #[.int .i64 here.1, .int .i64 here.2] 29)
              go_wp2_with fail
              refine (HWO.out _ T3).mono ?_
              rintro e w4 ⟨rfl, b4⟩
              have T4 := T3.below b4
              have hat4 := hat3.later b4
              have hH4 := (b4.block _ (heap_lt hH3)).trans hH3
              go_wp2_with fail
              refine (rdigit_eq _ false hdg _).mono ?_
              rintro e ws ⟨rfl, rfl⟩
              go_wp2_with fail
              refine (rmark_any _ _).mono ?_
              rintro e ws ⟨rfl, rfl⟩
              have c0 := cell_blk (i := 0) hH4
              have c1 := cell_blk (i := 1) hH4
              simp at c0 c1
              obtain ⟨e0, e1, e2, d0, d1, d2⟩ := hat4.faults
              go_wp2
              go_region
              go_wp2
              refine bodyPost_ret (v := .tuple #[.slice none 0 0, .agg #[.int .i64 4, .int .i64 here.1, .int .i64 here.2]]) (by simp [results, Tryz.results20, go_sem, c0, c1, e0, e1, e2]) rfl ?_
              rw [HR.out]
              exact ⟨_, rfl, World.ownsRow_nil _ _ _ _, (hat4.out _ _ _).drew⟩
    · have hend := refGo_end s fuel pos acc hp
      rw [hgo] at hend
      have HR := Lib.hid hend
      clear hgo hend
      have hT0 := hT.below hat.below
      have hw := rWhere_any s (s.size : Int) wr (by omega) hT0
      generalize whereOf s (s.size : Int) = here at *
      have HW := Lib.hid hw
      have HA := Lib.hid hat
      clear hw hat
      go_wp2_with fail
      refine HW.out.mono ?_
      rintro e w1 ⟨rfl, b1⟩
      have hat1 := HA.out.later b1
      have hl1 := hat1.lt
      have HA1 := Lib.hid hat1
      clear hat1
      go_wp2_with (at_builtin; (refine wpList_append_lies _ rfl (.tmp 145) (.tmp 151) 56 rfl (w.heap.size + 1) 66 i0 _ 4 40 Tryz.underlying56 hi0 hz0 hz1 hz2 rfl (by omega) _ acc.length (toksCells acc) rfl (HA1.out.own.alloc _) ⟨w1.heap.size, 0, none⟩ 1 1 (endTok here).cells rfl rfl (World.news_of_block (cs := #[.int .u8 0, .string ⟨#[]⟩, .int .i64 here.1, .int .i64 here.2]) (t := 66) (fr := (0, 0)) (heap_alloc_new _ _)) (by simp [endTok, Tok.cells, Value.oneCell']) (by omega) (by unfold maxLen; omega) (by omega) (by simp; omega) _ rfl ?_; intro g cap w2 hown2 hgrow hat2 hlt; have hatE := (HA1.out.alloc (.cells #[.int .u8 0, .string ⟨#[]⟩, .int .i64 here.1, .int .i64 here.2] 66)).grown (acc' := acc ++ [endTok here]) (by rw [toksCells_snoc, List.length_append]; exact hown2) hgrow; obtain ⟨q0, q1, q2, p0, p1, p2⟩ := hatE.faults))
      refine bodyPost_ret (v := .tuple #[.slice (some ⟨g, 0, none⟩) (acc.length + 1) cap, .agg #[.int .i64 0, .int .i64 0, .int .i64 0]]) (by simp [results, Tryz.results20, go_sem, q0, q1, q2]) rfl ?_
      rw [HR.out]
      refine ⟨_, rfl, ?_, hatE.out _ _ _⟩
      have ho := ownsRow_set (ownsRow_set (ownsRow_set hatE.own (a := ⟨w.heap.size, 0, none⟩) (by simp) (.int .i64 0)) (a := ⟨w.heap.size, 1, none⟩) (by simp) (.int .i64 0)) (a := ⟨w.heap.size, 2, none⟩) (by simp) (.int .i64 0)
      exact ownsRow_base ho (by omega)

set_option maxHeartbeats 1000000 in
theorem rtokens_great (s : ByteArray) (w : World) (hs : 65536 < s.size) (hm : s.size ≤ maxLen) :
    Calls Tryz.prog 20 #[.string s] w (Answers w (refOf s)) := by
  have HO : Hid (refOf s = ([], 3, (1, 1))) := by unfold refOf; rw [if_pos hs]; exact rfl
  unfold maxLen at hm
  go_enter Tryz.func20, Tryz.ntmps20
  go_wp2
  refine bodyPost_ret (v := .tuple #[.slice none 0 0, .agg #[.int .i64 3, .int .i64 1, .int .i64 1]]) (by simp [results, Tryz.results20, go_sem]) rfl ?_
  rw [HO.out]
  exact ⟨_, rfl, World.ownsRow_nil _ _ _ _, (Below.refl _ w).alloc (Nat.le_refl _) _⟩

theorem rtokens_any (s : ByteArray) (w : World) (hm : s.size ≤ maxLen) (hT : Tabs w) :
    Calls Tryz.prog 20 #[.string s] w (Answers w (refOf s)) := by
  by_cases h : 65536 < s.size
  · exact rtokens_great s w h hm
  · exact rtokens_small s w (by omega) hT
end Go.Proofs.YtbkjminjkjnkpaaGreatDoor
