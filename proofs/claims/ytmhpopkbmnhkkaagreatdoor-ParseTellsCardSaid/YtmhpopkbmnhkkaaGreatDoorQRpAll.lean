import Derived.Test.YtmhpopkbmnhkkaaGreatDoorQRpCd
import Derived.Test.YtmhpopkbmnhkkaaGreatDoorQParWhole
import Derived.Test.YtmhpopkbmnhkkaaGreatDoorQRefTokens
import Derived.Test.YtmhpopkbmnhkkaaGreatDoorQRef
/- joustref02: what all of a text is, and the reader that a text is given. -/
namespace Go.Proofs.YtmhpopkbmnhkkaaGreatDoor
open Go.RowKit Go.Lib

theorem scanGo_spot0 (s : ByteArray) : ∀ (f pos : Nat) (here : Int × Int) (remark : Bool) (behind : Nat) (acc : List Tok), (scanGo s f pos here remark behind acc).2.1 = 0 → (scanGo s f pos here remark behind acc).2.2 = (0, 0)
  | 0, pos, here, remark, behind, acc, _ => rfl
  | f + 1, pos, here, remark, behind, acc, h => by
    unfold scanGo at h ⊢
    by_cases hp : pos < s.size
    · rw [if_pos hp] at h ⊢
      by_cases c1 : brokenB (s.extract pos s.size) (Utf8.decode s pos).1 = true
      · rw [if_pos c1] at h; cases h
      rw [if_neg c1] at h ⊢
      by_cases c2 : pos < behind
      · rw [if_pos c2] at h ⊢; exact scanGo_spot0 s f _ _ _ _ _ h
      rw [if_neg c2] at h ⊢
      by_cases c3 : remark = true
      · rw [if_pos c3] at h ⊢; exact scanGo_spot0 s f _ _ _ _ _ h
      rw [if_neg c3] at h ⊢
      by_cases c4 : (Utf8.decode s pos).1 = 35
      · rw [if_pos c4] at h ⊢; exact scanGo_spot0 s f _ _ _ _ _ h
      rw [if_neg c4] at h ⊢
      by_cases c5 : blankB (Utf8.decode s pos).1 = true
      · rw [if_pos c5] at h ⊢; exact scanGo_spot0 s f _ _ _ _ _ h
      rw [if_neg c5] at h ⊢
      by_cases c6 : (tokOf (s.extract pos s.size)).2.2 = 0
      · rw [if_pos c6] at h ⊢; exact scanGo_spot0 s f _ _ _ _ _ h
      · rw [if_neg c6] at h; exact absurd h c6
    · rw [if_neg hp] at h ⊢
theorem scan_spot0 (s : ByteArray) (h : (scanOf s).2.1 = 0) : (scanOf s).2.2 = (0, 0) := by
  unfold scanOf at h ⊢
  by_cases hs : 65536 < s.size
  · rw [if_pos hs] at h; cases h
  · rw [if_neg hs] at h ⊢; exact scanGo_spot0 s _ _ _ _ _ _ h

section
variable {α : Type}
def pAll (ts : List Tok) (bg : Tok → Bool) (p : Par α) (most : Nat) : Par (List α) := (pMany ts bg p most []).bind (pWhole ts)
/-- What holds behind each thing that was read, or was to be. -/
def AllInv (ts : List Tok) (bg : Tok → Bool) (p : Par α) (most : Nat) (s1 : RS) (acc : List α) : Prop :=
  (∃ q, s1 = .ok q ∧ acc.length ≤ most ∧ Left ts bg p most (.ok 0) acc (.ok q)) ∨ (∃ x l c, s1 = .bad x l c ∧ acc.length ≤ most + 1 ∧ ∀ y, Res (pAll ts bg p most) (.ok 0) y (.bad x l c))
variable {E : REnv} {bg : Tok → Bool} {p : Par α} {most q : Nat} {acc : List α} {x : α} {s2 : RS}
theorem all_more (h : Left E.ts bg p most (.ok 0) acc (.ok q)) (hl : acc.length < most) (hb : bg (tk E.ts q) = true) (hx : Res p (.ok q) x s2) : AllInv E.ts bg p most s2 (acc ++ [x]) := by
  have hm := h.more hb hl hx
  cases s2 with
  | ok q2 => exact .inl ⟨q2, rfl, by simp; omega, hm⟩
  | bad e l c => exact .inr ⟨e, l, c, rfl, by simp; omega, fun y => Res.bind (hm y _ rfl) rfl⟩
theorem all_wrong (h : Left E.ts bg p most (.ok 0) acc (.ok q)) (hl : acc.length ≤ most) (hb : bg (tk E.ts q) = false) (hk : (tk E.ts q).kind ≠ 0) (hp : p q = pFail E.ts 5 q) (hx : Res p (.ok q) x s2) : AllInv E.ts bg p most s2 (acc ++ [x]) := by
  have hd := h.doneR (E := E) (fun q' hq => by cases hq; exact hb)
  have hs : s2 = .bad 5 (tk E.ts q).spot.1 (tk E.ts q).spot.2 := by
    simp only [Res, hp, pFail] at hx; exact hx
  subst hs
  refine .inr ⟨_, _, _, rfl, by simp; omega, fun y => Res.bind hd ?_⟩
  exact Res.of_error (by simp only [pWhole, hk, if_false, pFail]) y
theorem all_full (h : Left E.ts bg p most (.ok 0) acc (.ok q)) (hl : acc.length = most) (hb : bg (tk E.ts q) = true) (hx : Res p (RS.failR E 3 (.ok q)) x s2) : AllInv E.ts bg p most s2 (acc ++ [x]) := by
  have hs : s2 = RS.failR E 3 (.ok q) := hx
  subst hs
  exact .inr ⟨_, _, _, rfl, by simp; omega, fun y => Res.bind (h.fullR hb hl y) rfl⟩
theorem all_done (h : Left E.ts bg p most (.ok 0) acc (.ok q)) (hb : bg (tk E.ts q) = false) (hk : (tk E.ts q).kind = 0) : Res (pAll E.ts bg p most) (.ok 0) acc (.ok q) :=
  Res.bind (h.doneR (E := E) (fun q' hq => by cases hq; exact hb)) (Res.of_ok (by simp only [pWhole, hk, if_true]))
end

theorem card_wrong {ts : List Tok} {q : Nat} (hb : inW kindsW (tk ts q) = false) : pCard ts q = pFail ts 5 q := by
  have hf : findW kindsW (tk ts q).text 0 = none := by unfold inW at hb; simpa using hb
  have e1 : pOne ts kindsW q = pFail ts 5 q := by simp only [pOne, hf]
  unfold pCard Par.bind
  rw [e1]
  rfl
theorem expr_wrong {ts : List Tok} {q : Nat} (hb : beginsB (tk ts q) = false) : pExpr ts 5 q = pFail ts 5 q := by
  unfold beginsB at hb
  rw [Bool.or_eq_false_iff] at hb
  have hf : findW [⟨#[108, 105, 102, 101]⟩, ⟨#[99, 111, 117, 110, 116]⟩, ⟨#[112, 111, 119, 101, 114]⟩, ⟨#[40]⟩] (tk ts q).text 0 = none := by have := hb.1; unfold inW at this; simpa using this
  have hk : (tk ts q).kind ≠ 2 := by simpa using hb.2
  simp only [findW] at hf
  have h1 : (tk ts q).text ≠ ⟨#[108, 105, 102, 101]⟩ := fun e => by rw [e] at hf; simp at hf
  have h2 : (tk ts q).text ≠ ⟨#[99, 111, 117, 110, 116]⟩ := fun e => by rw [e] at hf; revert hf; decide
  have h3 : (tk ts q).text ≠ ⟨#[112, 111, 119, 101, 114]⟩ := fun e => by rw [e] at hf; revert hf; decide
  have h4 : (tk ts q).text ≠ ⟨#[40]⟩ := fun e => by rw [e] at hf; revert hf; decide
  exact expr_none hk h4 h1 h2 h3

/-- One more of a row. -/
theorem row_grow {α : Type} {P : World → (Nat → Prop) → List Value → α → Prop} (hP : Frames P) {ty : TypeId} {size R B g cap b : Nat} {Wb w5 w6 : World} {v : Value} {xs : List α} {css : List (List Value)} {x1 : α} {c1 : List Value} (hR : R < B) (hB : B ≤ Wb.heap.size)
    (hrow : RowOf Wb (From B) ty size P v xs css) (k3 : Kept R Wb w5) (hx1 : P w5 (From Wb.heap.size) c1 x1) (hc : c1.length = size) (hone : ∀ u ∈ c1, u.oneCell' = true)
    (hown : w6.ownsRow b ty size (.slice (some ⟨g, 0, none⟩) (xs.length + 1) cap) (xs.length + 1) (css.flatten ++ c1))
    (hgr : (w5.alloc (.cells c1.toArray ty)).grownBy w6 v.ownBlock) (hat : v.ownBlock = some g ∨ g = w5.heap.size + 1) :
    RowOf w6 (From B) ty size P (.slice (some ⟨g, 0, none⟩) (xs.length + 1) cap) (xs ++ [x1]) (css ++ [c1]) := by
  have hown0 := hrow.own
  have h5 : RowOf (w5.alloc (.cells c1.toArray ty)) (From B) ty size P v xs css :=
    hrow.frame hP fun i hi hl => ⟨hi, (Below.heap_alloc _ _ _ (Nat.lt_of_lt_of_le hl k3.size)).trans (k3.block i hl (by unfold From at hi; omega))⟩
  exact RowOf.snoc hP h5 (x := x1) (c := c1) (Sx := From Wb.heap.size) hc hone
    (hP _ _ _ _ _ _ hx1 fun i hi hl => ⟨hi, Below.heap_alloc _ _ _ hl⟩) (fun i hi _ => ⟨by unfold From at *; omega, fun e => by have := (hown0.lt i e).2; unfold From at hi; omega⟩) (H := w5.heap.size + 1) (by simp) (by have := k3.size; unfold From; omega) hown hgr hat

/-- A text's reader is laid. -/
def RReadEnds (s : ByteArray) (w : World) (e : Ending) (w' : World) : Prop := ∃ (R : Nat) (v : Value), e = .returned (.pointer (some ⟨R, 0, none⟩)) ∧ w.heap.size ≤ R ∧ Below w.heap.size w w' ∧ HasToks w' v (scanOf s).1 ∧
  w'.heap[R]? = some (.cells #[v, .int .i64 0, .int .i64 (scanOf s).2.1, .int .i64 (scanOf s).2.2.1, .int .i64 (scanOf s).2.2.2] 75 (0, 0))
theorem HasToks.slot {w : World} {v : Value} {ts : List Tok} (h : HasToks w v ts) : ∃ a n c, v = .slice a n c := by
  rcases h.open with ⟨h, -⟩ | ⟨g, cap, h, -⟩
  · exact ⟨_, _, _, h⟩
  · exact ⟨_, _, _, h⟩
set_option maxHeartbeats 2000000 in
set_option maxRecDepth 100000 in
theorem rread_any (s : ByteArray) (w : World) (hs : s.size ≤ maxLen) (hT : Tabs w) : Calls Tryz.prog 33 #[.string s] w (RReadEnds s w) := by
  have ht : Hid (∀ W, Tabs W → Calls Tryz.prog 70 #[.string s] W (ToksAt W (scanOf s).1 (scanOf s).2.1 (scanOf s).2.2)) := fun W hW => by
    rw [scanOf_refOf]; exact (rtokens_any s W hs hW).mono fun _ _ h => h.at_
  have HT := Lib.hid hT
  clear hs hT
  unfold RReadEnds
  generalize (scanOf s).1 = ts at *
  generalize (scanOf s).2.1 = er at *
  generalize hlc : (scanOf s).2.2 = lc at *
  clear hlc
  obtain ⟨l, c⟩ := lc
  simp only [] at ht ⊢
  go_enter Tryz.func33, Tryz.ntmps33
  go_wp2_with fail
  refine (ht.out _ HT.out).mono ?_
  rintro e w1 ⟨v, rfl, ho, b1⟩
  obtain ⟨va, vn, vc, rfl⟩ := ho.slot
  have HO := Lib.hid ho
  have B1 := Lib.hid b1
  clear ho b1
  go_wp2
  go_ret
  refine ⟨_, .slice va vn vc, rfl, ?_, ?_, ?_, heap_new_at _ _ _ (by simp)⟩
  · have := B1.out.size; simp; omega
  · exact (B1.out.alloc B1.out.size _).alloc (by have := B1.out.size; simp; omega) _
  · exact HO.out.later (((Below.refl _ _).alloc (Nat.le_refl _) _).alloc (by simp) _)
theorem rr_new (s : ByteArray) (w : World) (R : Nat) (v : Value) (h0 : (scanOf s).2.1 = 0) (ho : HasToks w v (scanOf s).1)
    (hR : w.heap[R]? = some (.cells #[v, .int .i64 0, .int .i64 (scanOf s).2.1, .int .i64 (scanOf s).2.2.1, .int .i64 (scanOf s).2.2.2] 75 (0, 0))) (hz : (scanOf s).2.2 = (0, 0)) :
    ∃ E : REnv, E.R = R ∧ E.ts = (scanOf s).1 ∧ RR w E (.ok 0) := by
  have hw := wtoks_scan s h0
  rcases ho.open with ⟨_, hn⟩ | ⟨g, cap, hv, hc, hm, ht⟩
  · have := hw.pos; rw [hn] at this; exact absurd this (by decide)
  · subst hv
    have hne : g ≠ R := by
      rintro rfl
      have h1 := (ht 0 _ (tk_get hw.pos)).1
      rw [cell_blk hR] at h1
      simp at h1
    refine ⟨⟨R, g, cap, (scanOf s).1⟩, rfl, rfl, ⟨fun i t hi => ht i t hi, hne, ⟨hc, hm⟩, hw⟩, ⟨0, ?_, fun p hp => by cases hp; rfl⟩, hw.pos⟩
    rw [hR, h0, hz]
    rfl

set_option maxHeartbeats 1000000 in
set_option maxRecDepth 100000 in
theorem rdone_bad (R : Nat) (w : World) (x : Int) (hx : x ≠ 0) (c2 : w.cell? ⟨R, 2, none⟩ = some (.int .i64 x)) :
    Calls Tryz.prog 34 #[.pointer (some ⟨R, 0, none⟩)] w fun e w' => e = .returned (.bool true) ∧ Below w.heap.size w w' := by
  have q1 : (x != 0) = true := by simpa using hx
  clear hx
  go_enter Tryz.func34, Tryz.ntmps34
  go_wp2
  go_ret
  exact ⟨rfl, (by repeat (first | (with_reducible exact Below.refl _ _) | (with_reducible assumption) | ((with_reducible refine Below.setCell ?_ ?_ _); rotate_left; focus (simp; done)) | ((with_reducible refine Below.alloc ?_ ?_ _); rotate_left; focus (simp; done)) | (with_reducible refine Below.drew ?_)))⟩
set_option maxHeartbeats 1000000 in
set_option maxRecDepth 100000 in
theorem rdone_ok (E : REnv) (p : Nat) (w : World) (b : Bool) (hb : decide ((tk E.ts p).kind = 0) = b) (h : RR w E (.ok p)) :
    Calls Tryz.prog 34 #[.pointer (some ⟨E.R, 0, none⟩)] w fun e w' => e = .returned (.bool b) ∧ Below w.heap.size w w' := by
  have hn : Hid (∀ W, RR W E (.ok p) → _) := fun W hW => rnext_any E (.ok p) W hW
  obtain ⟨a, ha, hap, c0, c1, c2, c3, c4, cf⟩ := h.cells
  have HH := Lib.hid h
  have hlt := h.lt
  simp only [RS.e] at c2
  simp only [REnv.tok] at hn
  have q1 : ((0 : Int) != 0) = false := rfl
  clear h ha hap c0 c1 c3 c4 cf
  generalize tk E.ts p = t at *
  obtain ⟨k, x, l, c⟩ := t
  simp only [] at hb hn
  cases b with
  | true =>
    have hk : k = 0 := of_decide_eq_true hb
    subst hk
    have hf0 : ∀ w : World, (Instr.field 103 (.agg #[.int .u8 0, .string x, .int .i64 l, .int .i64 c]) 0).run Tryz.prog w = .ok (.int .u8 0) w := fun _ => by kernel_rfl
    clear hb
    go_enter Tryz.func34, Tryz.ntmps34
    go_wp2_with fail
    refine (hn.out _ HH.out).mono ?_
    rintro e w1 ⟨rfl, b1⟩
    have B1 := Lib.hid b1
    clear b1
    go_wp2
    go_ret
    exact ⟨rfl, B1.out⟩
  | false =>
    have hk : k ≠ 0 := of_decide_eq_false hb
    have q2 : ((k : Int) == 0) = false := by simp; omega
    have hf0 := tokf0 k x l c
    clear hb hk
    go_enter Tryz.func34, Tryz.ntmps34
    go_wp2_with fail
    refine (hn.out _ HH.out).mono ?_
    rintro e w1 ⟨rfl, b1⟩
    have B1 := Lib.hid b1
    clear b1
    go_wp2
    go_ret
    exact ⟨rfl, B1.out⟩

theorem wdy_begins : Wdy [⟨#[108, 105, 102, 101]⟩, ⟨#[99, 111, 117, 110, 116]⟩, ⟨#[112, 111, 119, 101, 114]⟩, ⟨#[40]⟩] := ⟨by decide, by decide, by decide⟩
theorem words_begins (w : World) (R b : Nat) (hb : w.heap.size = b) (hR : R < b) : WordsAt (w.alloc (.cells #[.string ⟨#[108, 105, 102, 101]⟩, .string ⟨#[99, 111, 117, 110, 116]⟩, .string ⟨#[112, 111, 119, 101, 114]⟩, .string ⟨#[40]⟩] 9)) R (.slice (some ⟨b, 0, none⟩) 4 4) [⟨#[108, 105, 102, 101]⟩, ⟨#[99, 111, 117, 110, 116]⟩, ⟨#[112, 111, 119, 101, 114]⟩, ⟨#[40]⟩] := by subst hb; exact words_new w R [⟨#[108, 105, 102, 101]⟩, ⟨#[99, 111, 117, 110, 116]⟩, ⟨#[112, 111, 119, 101, 114]⟩, ⟨#[40]⟩] 9 hR
set_option maxHeartbeats 1000000 in
set_option maxRecDepth 100000 in
theorem rbegins_any (E : REnv) (p : Nat) (w : World) (h : RR w E (.ok p)) :
    Calls Tryz.prog 43 #[.pointer (some ⟨E.R, 0, none⟩)] w fun e w' => e = .returned (.bool (beginsB (tk E.ts p))) ∧ RGoes w E (.ok p) w' := by
  have hn : Hid (∀ W, RR W E (.ok p) → _) := fun W hW => rnext_any E (.ok p) W hW
  have HE := Lib.hid h.both
  have GG := Lib.hid (RGoes.start h)
  have hlt := h.lt
  clear h
  simp only [REnv.tok] at hn
  by_cases hk : (tk E.ts p).kind = 2
  · have hr : Hid (beginsB (tk E.ts p) = true) := by unfold Hid beginsB; simp [hk]
    generalize tk E.ts p = t at *
    obtain ⟨k, x, l, c⟩ := t
    simp only [] at hk hn
    subst hk
    have hf0 : ∀ w : World, (Instr.field 103 (.agg #[.int .u8 2, .string x, .int .i64 l, .int .i64 c]) 0).run Tryz.prog w = .ok (.int .u8 2) w := fun _ => by kernel_rfl
    go_enter Tryz.func43, Tryz.ntmps43
    go_wp2_with fail
    refine (hn.out _ (RGoes.rd (w := w) (by repeat (first | (with_reducible exact GG.out) | (with_reducible refine RGoes.alloc ?_ _) | (with_reducible refine RGoes.drew ?_) | ((with_reducible refine RGoes.store ?_ HE.out ?_ _); rotate_left; focus (first | (simp; done) | (simp; omega) | omega)))))).mono ?_
    rintro e w1 ⟨rfl, b1⟩
    replace GG := Lib.hid (RGoes.below (w := w) (E := E) (s := .ok p) (by repeat (first | (with_reducible exact GG.out) | (with_reducible refine RGoes.alloc ?_ _) | (with_reducible refine RGoes.drew ?_) | ((with_reducible refine RGoes.store ?_ HE.out ?_ _); rotate_left; focus (first | (simp; done) | (simp; omega) | omega)))) b1)
    clear b1
    go_wp2
    go_ret
    exact ⟨ret_bool (by rw [hr.out]), (by repeat (first | (with_reducible exact GG.out) | (with_reducible refine RGoes.alloc ?_ _) | (with_reducible refine RGoes.drew ?_) | ((with_reducible refine RGoes.store ?_ HE.out ?_ _); rotate_left; focus (first | (simp; done) | (simp; omega) | omega))))⟩
  · have hr : Hid (beginsB (tk E.ts p) = amongW E (.ok p) [⟨#[108, 105, 102, 101]⟩, ⟨#[99, 111, 117, 110, 116]⟩, ⟨#[112, 111, 119, 101, 114]⟩, ⟨#[40]⟩]) := by unfold Hid beginsB amongW; simp [hk]
    have hfa := tokf0 (tk E.ts p).kind (tk E.ts p).text (tk E.ts p).spot.1 (tk E.ts p).spot.2
    have q2 : (((tk E.ts p).kind : Int) == 2) = false := by simp; omega
    clear hk
    go_enter Tryz.func43, Tryz.ntmps43
    go_wp2_with fail
    refine (hn.out _ (RGoes.rd (w := w) (by repeat (first | (with_reducible exact GG.out) | (with_reducible refine RGoes.alloc ?_ _) | (with_reducible refine RGoes.drew ?_) | ((with_reducible refine RGoes.store ?_ HE.out ?_ _); rotate_left; focus (first | (simp; done) | (simp; omega) | omega)))))).mono ?_
    rintro e w1 ⟨rfl, b1⟩
    replace GG := Lib.hid (RGoes.below (w := w) (E := E) (s := .ok p) (by repeat (first | (with_reducible exact GG.out) | (with_reducible refine RGoes.alloc ?_ _) | (with_reducible refine RGoes.drew ?_) | ((with_reducible refine RGoes.store ?_ HE.out ?_ _); rotate_left; focus (first | (simp; done) | (simp; omega) | omega)))) b1)
    have sz1 := GG.out.kept.size
    clear b1
    go_wp2_with fail
    refine (ramong_any E (.ok p) _ _ [⟨#[108, 105, 102, 101]⟩, ⟨#[99, 111, 117, 110, 116]⟩, ⟨#[112, 111, 119, 101, 114]⟩, ⟨#[40]⟩] wdy_begins (words_begins _ E.R _ (by simp) (by omega)) (RGoes.rd (w := w) (by repeat (first | (with_reducible exact GG.out) | (with_reducible refine RGoes.alloc ?_ _) | (with_reducible refine RGoes.drew ?_) | ((with_reducible refine RGoes.store ?_ HE.out ?_ _); rotate_left; focus (first | (simp; done) | (simp; omega) | omega)))))).mono ?_
    rintro e w2 ⟨rfl, g2⟩
    replace GG := Lib.hid (RGoes.trans (w := w) (E := E) (s := .ok p) (by repeat (first | (with_reducible exact GG.out) | (with_reducible refine RGoes.alloc ?_ _) | (with_reducible refine RGoes.drew ?_) | ((with_reducible refine RGoes.store ?_ HE.out ?_ _); rotate_left; focus (first | (simp; done) | (simp; omega) | omega)))) g2)
    clear g2
    go_wp2
    go_ret
    exact ⟨ret_bool (by rw [hr.out]), (by repeat (first | (with_reducible exact GG.out) | (with_reducible refine RGoes.alloc ?_ _) | (with_reducible refine RGoes.drew ?_) | ((with_reducible refine RGoes.store ?_ HE.out ?_ _); rotate_left; focus (first | (simp; done) | (simp; omega) | omega))))⟩
end Go.Proofs.YtmhpopkbmnhkkaaGreatDoor
