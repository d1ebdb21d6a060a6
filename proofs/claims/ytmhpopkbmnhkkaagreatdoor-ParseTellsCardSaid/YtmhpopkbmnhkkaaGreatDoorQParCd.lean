import Derived.Test.YtmhpopkbmnhkkaaGreatDoorQParEf
import Derived.Test.YtmhpopkbmnhkkaaGreatDoorQParMEffects
/- Layer 2 (parse): a card is read. -/
namespace Go.Proofs.YtmhpopkbmnhkkaaGreatDoor
open Go.RowKit Go.Lib

/-- What a card's variable holds. -/
structure CdC where
  nm : ByteArray
  k : Nat
  lv : Int
  at_ : Int
  gd : Int
  va : Option Addr
  vn : Nat
  vc : Nat
def CdC.cells (x : CdC) : Array Value := #[.string x.nm, .int .u8 x.k, .int .i64 x.lv, .int .i64 x.at_, .int .i64 x.gd, .slice x.va x.vn x.vc]
def CdC.zero : CdC := ⟨⟨#[]⟩, 0, 0, 0, 0, none, 0, 0⟩
structure CdMid (E : Env) (w W : World) (s : RS) (x : CdC) : Prop where
  goes : Goes w E s 0 W
  res : W.heap[w.heap.size]? = some (.cells CdC.zero.cells 38 (0, 0))
  loc : W.heap[w.heap.size + 1]? = some (.cells x.cells 38 (0, 0))
section
variable {E : Env} {w W W' : World} {s s' : RS} {x : CdC}
theorem CdMid.lt (h : CdMid E w W s x) : w.heap.size + 1 < W.heap.size := heap_lt h.loc
theorem CdMid.call (h : CdMid E w W s x) (he : EnvAt w E ∧ E.R < w.heap.size) (g : Goes W E s' 0 W') : CdMid E w W' s' x :=
  ⟨h.goes.trans g, g.kept.heap (by have := he.2; omega) h.res, g.kept.heap (by have := he.2; omega) h.loc⟩
theorem CdMid.below (h : CdMid E w W s x) (b : Below W.heap.size W W') : CdMid E w W' s x := ⟨h.goes.below b, (b.block _ (heap_lt h.res)).trans h.res, (b.block _ (heap_lt h.loc)).trans h.loc⟩
theorem CdMid.set (h : CdMid E w W s x) (he : EnvAt w E ∧ E.R < w.heap.size) (i : Nat) (u : Value) (x' : CdC) (hx : x.cells.setIfInBounds i u = x'.cells) : CdMid E w (W.setCell ⟨w.heap.size + 1, i, none⟩ u) s x' :=
  ⟨h.goes.store he (by simp) _, heap_other h.res (by simp), heap_set_to h.loc hx⟩
theorem CdMid.cell (h : CdMid E w W s x) (i : Nat) (v : Value) (hv : x.cells[i]? = some v) : W.cell? ⟨w.heap.size + 1, i, none⟩ = some v := by rw [cell_blk h.loc, hv]
theorem CdMid.free (h : CdMid E w W s x) (i : Nat) : W.frozen? ⟨w.heap.size + 1, i, none⟩ = false := free_blk h.loc
end

set_option maxHeartbeats 4000000 in
set_option maxRecDepth 100000 in
theorem card_any (E : Env) (s : RS) (w : World) (h : Rd w E s 0) :
    Calls Tryz.prog 32 #[.pointer (some ⟨E.R, 0, none⟩)] w (CdEnds (pCard E.ts) E s w) := by
  have HE := Lib.hid h.both
  have hlt := h.lt
  have M0 : Hid (CdMid E w ((w.alloc (.cells CdC.zero.cells 38)).alloc (.cells CdC.zero.cells 38)) s CdC.zero) := by
    have GG := Lib.hid (Goes.start h)
    exact ⟨(by repeat (first | (with_reducible exact GG.out) | (with_reducible refine Goes.alloc ?_ _) | (with_reducible refine Goes.drew ?_) | ((with_reducible refine Goes.store ?_ HE.out ?_ _); rotate_left; focus (first | (simp; done) | (simp; omega) | omega)))), heap_old (heap_alloc_new _ _), heap_new_at _ _ _ (by simp)⟩
  clear h
  go_enter Tryz.func32, Tryz.ntmps32
  go_wp2_with fail
  refine (kinds_any E.R _ (by simp; omega)).mono ?_
  rintro e w1 ⟨v1, rfl, hv1, b1⟩
  have M1 := Lib.hid (M0.out.below b1)
  have HV := Lib.hid hv1
  have hfm : ∃ a n c, v1 = .slice a n c := by obtain ⟨b, c, hv, -⟩ := hv1; exact ⟨_, _, _, hv⟩
  obtain ⟨a1, n1, c1, rfl⟩ := hfm
  clear hv1 b1
  go_wp2_with fail
  refine (oneOf_any E s 0 _ _ kindsW wordy_kinds HV.out M1.out.goes.rd).mono ?_
  rintro e w2 ⟨k, s2, rfl, r2, l2, g2⟩
  have M2 := Lib.hid (M1.out.call HE.out g2)
  have t0 := M2.out.cell 1 _ rfl
  have f0 := M2.out.free 1
  have R2 := Lib.hid r2
  clear r2 l2 g2
  have M3 := Lib.hid (M2.out.set HE.out 1 (.int .u8 k) { CdC.zero with k := k } rfl)
  go_wp2_with fail
  refine (name_any E s2 0 _ M3.out.goes.rd).mono ?_
  rintro e w3 ⟨nm, s3, rfl, r3, g3⟩
  have M4 := Lib.hid (M3.out.call HE.out g3)
  have t1 := M4.out.cell 0 _ rfl
  have f1 := M4.out.free 0
  have t2 : w3.cell? ⟨w.heap.size + 1, 1, none⟩ = some (.int .u8 k) := M4.out.cell 1 _ rfl
  have R3 := Lib.hid r3
  clear r3 g3
  have M := Lib.hid (M4.out.set HE.out 0 (.string nm) { CdC.zero with k := k, nm := nm } rfl)
  go_upto_if 13 with fail
  go_cut [13] (fun s13 wx => ∃ (u : Int × Int × Int) (s4 : RS), Res (pUnit E.ts k) s3 u s4 ∧ CdMid E w wx s4 { CdC.zero with k := k, nm := nm, lv := u.1, at_ := u.2.1, gd := u.2.2 })
  case first =>
    by_cases hk : k = 0
    · have hr : Hid (∀ a b c s5 s6 s7, Res (pNum E.ts) s3 a s5 → Res (pNum E.ts) s5 b s6 → Res (pNum E.ts) s6 c s7 → Res (pUnit E.ts k) s3 (a, b, c) s7) := fun a b c s5 s6 s7 h1 h2 h3 => by
        unfold pUnit; rw [if_pos hk]; exact Res.bind h1 (Res.bind h2 (Res.map _ h3))
      have q : ((k : Int) == 0) = true := by simp [hk]
      clear hk
      go_wp2_with fail
      refine (number_any E s3 0 _ M.out.goes.rd).mono ?_
      rintro e w5 ⟨v5, s5, rfl, r5, g5⟩
      have M5 := Lib.hid (M.out.call HE.out g5)
      have y5 := M5.out.cell 2 _ rfl
      have yf5 := M5.out.free 2
      have M5 := Lib.hid (M5.out.set HE.out 2 (.int .i64 v5) { CdC.zero with k := k, nm := nm, lv := v5 } rfl)
      have R5 := Lib.hid r5
      clear r5 g5
      go_wp2_with fail
      refine (number_any E s5 0 _ M5.out.goes.rd).mono ?_
      rintro e w6 ⟨v6, s6, rfl, r6, g6⟩
      have M6 := Lib.hid (M5.out.call HE.out g6)
      have y6 := M6.out.cell 3 _ rfl
      have yf6 := M6.out.free 3
      have M6 := Lib.hid (M6.out.set HE.out 3 (.int .i64 v6) { CdC.zero with k := k, nm := nm, lv := v5, at_ := v6 } rfl)
      have R6 := Lib.hid r6
      clear r6 g6
      go_wp2_with fail
      refine (number_any E s6 0 _ M6.out.goes.rd).mono ?_
      rintro e w7 ⟨v7, s7, rfl, r7, g7⟩
      have M7 := Lib.hid (M6.out.call HE.out g7)
      have y7 := M7.out.cell 4 _ rfl
      have yf7 := M7.out.free 4
      have R7 := Lib.hid r7
      clear r7 g7
      go_wp2_with fail
      go_meet
      exact ⟨(v5, v6, v7), s7, hr.out _ _ _ _ _ _ R5.out R6.out R7.out, M7.out.set HE.out 4 (.int .i64 v7) _ rfl⟩
    · have hr : Hid (Res (pUnit E.ts k) s3 (0, 0, 0) s3) := by unfold Hid pUnit; rw [if_neg hk]; exact Res.pure _ _
      have q : ((k : Int) == 0) = false := by simp; omega
      clear hk
      go_wp2_with fail
      go_meet
      exact ⟨(0, 0, 0), s3, hr.out, M.out⟩
  case rest =>
    obtain ⟨u, s4, r4, m4⟩ := hcut
    obtain ⟨lv, at_, gd⟩ := u
    have M := Lib.hid m4
    have R4 := Lib.hid r4
    have szc := m4.lt
    clear m4 r4
    go_wp2_with fail
    refine (mark_any E s4 0 _ ⟨#[123]⟩ (by decide) M.out.goes.rd).mono ?_
    rintro e w8 ⟨rfl, s8, r8, g8⟩
    have M := Lib.hid (M.out.call HE.out g8)
    have R8 := Lib.hid r8
    have sz8 := M.out.lt
    clear r8 g8
    go_wp2_with fail
    refine (modes_any E.R _ (by omega)).mono ?_
    rintro e w9 ⟨v9, rfl, hv9, b9⟩
    have M := Lib.hid (M.out.below b9)
    have HV := Lib.hid hv9
    have sz9 := M.out.lt
    have hfm : ∃ a n c, v9 = .slice a n c := by obtain ⟨b, c, hv, -⟩ := hv9; exact ⟨_, _, _, hv⟩
    obtain ⟨a9, n9, c9, rfl⟩ := hfm
    clear hv9 b9
    go_wp2_with fail
    refine (oneWord_any E.R _ _ modesW HV.out (by omega)).mono ?_
    rintro e w10 ⟨tA, rfl, ht, b10⟩
    have M := Lib.hid (M.out.below b10)
    have HT := Lib.hid ht
    have sz10 : w.heap.size + 2 ≤ w10.heap.size := M.out.lt
    clear ht b10
    go_wp2_with fail
    refine (many_effects E s8 w10 4 tA (inW modesW) (pEffect E.ts) (by omega) (inW_end _ (by decide)) (fun W s k tx l c g => tells_word E.R tA W modesW (by decide) (HT.out.kept g.kept) k tx l c) (fun W s g _ => effect_any E s W g.rd) M.out.goes.rd).mono ?_
    rintro e w11 ⟨xs, a11, n11, c11, s11, rfl, hrow, r11, g11⟩
    have M := Lib.hid (M.out.call HE.out g11)
    have t5 := M.out.cell 5 _ rfl
    have f5 := M.out.free 5
    have R11 := Lib.hid r11
    have M := Lib.hid (M.out.set HE.out 5 (.slice a11 n11 c11) { CdC.zero with k := k, nm := nm, lv := lv, at_ := at_, gd := gd, va := a11, vn := n11, vc := c11 } rfl)
    have HRow := Lib.hid (row_above (w' := w11.setCell ⟨w.heap.size + 1, 5, none⟩ (.slice a11 n11 c11)) (B' := w.heap.size + 2) EfAt.frames hrow ((Above.refl _ _).setCell (by simp; omega) _) sz10)
    clear r11 g11 hrow
    go_wp2_with fail
    refine (mark_any E s11 0 _ ⟨#[125]⟩ (by decide) M.out.goes.rd).mono ?_
    rintro e w12 ⟨rfl, s12, r12, g12⟩
    have HRow := Lib.hid (row_above (w' := w12) EfAt.frames HRow.out ((Above.refl _ _).kept g12.kept (by omega)) (Nat.le_refl _))
    have M := Lib.hid (M.out.call HE.out g12)
    have R12 := Lib.hid r12
    clear r12 g12
    have y0 : w12.cell? ⟨w.heap.size + 1, 0, none⟩ = some (.string nm) := M.out.cell 0 _ rfl
    have y1 : w12.cell? ⟨w.heap.size + 1, 1, none⟩ = some (.int .u8 k) := M.out.cell 1 _ rfl
    have y2 : w12.cell? ⟨w.heap.size + 1, 2, none⟩ = some (.int .i64 lv) := M.out.cell 2 _ rfl
    have y3 : w12.cell? ⟨w.heap.size + 1, 3, none⟩ = some (.int .i64 at_) := M.out.cell 3 _ rfl
    have y4 : w12.cell? ⟨w.heap.size + 1, 4, none⟩ = some (.int .i64 gd) := M.out.cell 4 _ rfl
    have y5 : w12.cell? ⟨w.heap.size + 1, 5, none⟩ = some (.slice a11 n11 c11) := M.out.cell 5 _ rfl
    have hB : w12.heap[w.heap.size]? = some (.cells #[.string ⟨#[]⟩, .int .u8 0, .int .i64 0, .int .i64 0, .int .i64 0, .slice none 0 0] 38 (0, 0)) := M.out.res
    have e0 := cell_blk (i := 0) hB
    have e1 := cell_blk (i := 1) hB
    have e2 := cell_blk (i := 2) hB
    have e3 := cell_blk (i := 3) hB
    have e4 := cell_blk (i := 4) hB
    have e5 := cell_blk (i := 5) hB
    have ef0 := free_blk (i := 0) hB
    have ef1 := free_blk (i := 1) hB
    have ef2 := free_blk (i := 2) hB
    have ef3 := free_blk (i := 3) hB
    have ef4 := free_blk (i := 4) hB
    have ef5 := free_blk (i := 5) hB
    simp at e0 e1 e2 e3 e4 e5
    clear hB
    go_wp2
    refine bodyPost_ret (v := .agg #[.string nm, .int .u8 k, .int .i64 lv, .int .i64 at_, .int .i64 gd, .slice a11 n11 c11]) (by simp [results, Tryz.results32, go_sem, e0, e1, e2, e3, e4, e5]) rfl ?_
    refine ⟨⟨nm, k, lv, at_, gd, xs⟩, a11, n11, c11, s12, rfl, ⟨_, rfl, row_above (w := w12) (B := w.heap.size + 2) EfAt.frames HRow.out (by repeat (first | (with_reducible exact Above.refl _ _) | (with_reducible refine Above.alloc ?_ _) | (with_reducible refine Above.drew ?_) | ((with_reducible refine Above.setCell ?_ ?_ _); rotate_left; focus (first | (simp; done) | (simp; omega) | omega)))) (by omega)⟩, ?_, ?_⟩
    · exact Res.bind R2.out (Res.bind R3.out (Res.bind R4.out (Res.bind R8.out (Res.bind R11.out (Res.map _ R12.out)))))
    · have GG := Lib.hid M.out.goes
      exact (by repeat (first | (with_reducible exact GG.out) | (with_reducible refine Goes.alloc ?_ _) | (with_reducible refine Goes.drew ?_) | ((with_reducible refine Goes.store ?_ HE.out ?_ _); rotate_left; focus (first | (simp; done) | (simp; omega) | omega))))
end Go.Proofs.YtmhpopkbmnhkkaaGreatDoor
