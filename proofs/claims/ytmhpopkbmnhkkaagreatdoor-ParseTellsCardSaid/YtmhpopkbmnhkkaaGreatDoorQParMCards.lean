import Derived.Test.YtmhpopkbmnhkkaaGreatDoorQParM
/- Layer 2 (parse): many (cards) are read, one behind the other. -/
namespace Go.Proofs.YtmhpopkbmnhkkaaGreatDoor
open Go.RowKit Go.Lib

set_option maxHeartbeats 4000000 in
set_option maxRecDepth 100000 in
theorem many_cards (E : Env) (s : RS) (w : World) (most : Nat) (tA : Nat) (bg : Tok → Bool) (p : Par Cd) (hm : most ≤ 1000) (hend : ∀ l c, bg ⟨0, ⟨#[]⟩, (l, c)⟩ = false)
    (hbeg : ∀ (W : World) (s : RS) (k : Nat) (tx : ByteArray) (l c : Int), Goes w E s 0 W → Calls Tryz.prog 61 #[.agg #[.int .u8 k, .string tx, .int .i64 l, .int .i64 c], .pointer (some ⟨tA, 0, none⟩)] W fun e w' => e = .returned (.bool (bg ⟨k, tx, (l, c)⟩)) ∧ Below W.heap.size W w')
    (hread : ∀ (W : World) (s : RS), Goes w E s 0 W → bg (E.tok s) = true → Calls Tryz.prog 32 #[.pointer (some ⟨E.R, 0, none⟩)] W (CdEnds p E s W)) (h : Rd w E s 0) :
    Calls Tryz.prog 29 #[.pointer (some ⟨E.R, 0, none⟩), .int .i64 most, .func (.func 61) #[] #[.pointer (some ⟨tA, 0, none⟩)], .func (.func 32) #[.pointer (some ⟨E.R, 0, none⟩)] #[]] w
      (ManyEnds 38 6 CdAt (pMany E.ts bg p most []) E s w) := by
  have HE := Lib.hid h.both
  have hlt := h.lt
  have HS0 := Lib.hid (Goes.start h)
  have HB0 := Lib.hid hbeg
  have HR0 := Lib.hid hread
  have HN0 := Lib.hid hend
  obtain ⟨i0, hi0, hz0, hz1, hz2⟩ := info_parts Tryz.cardInfo
  clear h hbeg hread hend
  go_enter Tryz.func29, Tryz.ntmps29
  go_wp2
  go_loopw [9] (fun v wr => ∃ (acc : List Cd) (a : Option Addr) (n c : Nat) (s1 : RS), v = .slice a n c ∧ n = acc.length ∧ acc.length ≤ most ∧ RowAt wr (From w.heap.size) 38 6 CdAt (.slice a n c) acc ∧ Goes w E s1 0 wr ∧ Left E.ts bg p most s acc s1)
    (fun v _ => most - lenV v)
  case atStart => exact ⟨[], none, 0, 0, s, rfl, rfl, Nat.zero_le _, RowAt.nil _ _ _ _ _, HS0.out, Left.start most s⟩
  case round =>
    obtain ⟨acc, a, n, c, s1, rfl, hn, hle, hrow, gg, hleft⟩ := hrel
    have GG := Lib.hid gg
    have HRow := Lib.hid hrow
    have HLeft := Lib.hid hleft
    have HNn := Lib.hid hn
    have hle2 : n ≤ most := by omega
    have hnext : Hid (∀ W, Rd W E s1 0 → _) := fun W hW => next_reads E s1 0 W hW
    clear gg hrow hleft hn hle
    go_wp2_with fail
    refine (hnext.out _ (Goes.rd (w := w) (by repeat (first | (with_reducible exact GG.out) | (with_reducible refine Goes.alloc ?_ _) | (with_reducible refine Goes.drew ?_) | ((with_reducible refine Goes.store ?_ HE.out ?_ _); rotate_left; focus (first | (simp; done) | (simp; omega) | omega)))))).mono ?_
    rintro e w1 ⟨rfl, b1⟩
    have GG := Lib.hid (Goes.below (w := w) (E := E) (s := s1) (d := 0) (by repeat (first | (with_reducible exact GG.out) | (with_reducible refine Goes.alloc ?_ _) | (with_reducible refine Goes.drew ?_) | ((with_reducible refine Goes.store ?_ HE.out ?_ _); rotate_left; focus (first | (simp; done) | (simp; omega) | omega)))) b1)
    have HRow := Lib.hid (row_above (w' := w1) (CdAt.frames) HRow.out ((Above.refl _ _).below b1) (Nat.le_refl _))
    clear b1
    cases hbg : bg (E.tok s1) with
    | false =>
      have hcall := HB0.out w1 s1 (E.tok s1).kind (E.tok s1).text (E.tok s1).spot.1 (E.tok s1).spot.2 (by repeat (first | (with_reducible exact GG.out) | (with_reducible refine Goes.alloc ?_ _) | (with_reducible refine Goes.drew ?_) | ((with_reducible refine Goes.store ?_ HE.out ?_ _); rotate_left; focus (first | (simp; done) | (simp; omega) | omega))))
      rw [show (⟨(E.tok s1).kind, (E.tok s1).text, ((E.tok s1).spot.1, (E.tok s1).spot.2)⟩ : Tok) = E.tok s1 from rfl, hbg] at hcall
      have HC := Lib.hid hcall
      have HG := Lib.hid hbg
      clear hcall hbg
      go_wp2_with fail
      refine HC.out.mono ?_
      rintro e w2 ⟨rfl, b2⟩
      have GG := Lib.hid (Goes.below (w := w) (E := E) (s := s1) (d := 0) (by repeat (first | (with_reducible exact GG.out) | (with_reducible refine Goes.alloc ?_ _) | (with_reducible refine Goes.drew ?_) | ((with_reducible refine Goes.store ?_ HE.out ?_ _); rotate_left; focus (first | (simp; done) | (simp; omega) | omega)))) b2)
      have HRow := Lib.hid (row_above (w' := w2) (CdAt.frames) HRow.out ((Above.refl _ _).below b2) (Nat.le_refl _))
      clear b2
      go_wp2
      go_ret
      exact ⟨acc, a, n, c, s1, rfl, HRow.out, HLeft.out.done HG.out, GG.out⟩
    | true =>
      have hcall := HB0.out w1 s1 (E.tok s1).kind (E.tok s1).text (E.tok s1).spot.1 (E.tok s1).spot.2 (by repeat (first | (with_reducible exact GG.out) | (with_reducible refine Goes.alloc ?_ _) | (with_reducible refine Goes.drew ?_) | ((with_reducible refine Goes.store ?_ HE.out ?_ _); rotate_left; focus (first | (simp; done) | (simp; omega) | omega))))
      rw [show (⟨(E.tok s1).kind, (E.tok s1).text, ((E.tok s1).spot.1, (E.tok s1).spot.2)⟩ : Tok) = E.tok s1 from rfl, hbg] at hcall
      have HC := Lib.hid hcall
      obtain ⟨q, rfl⟩ : ∃ q, s1 = .ok q := by
        cases s1 with
        | ok q => exact ⟨q, rfl⟩
        | bad x l y =>
          obtain ⟨h1, h2⟩ := tok_bad GG.out.rd
          exfalso
          have h3 : E.tok (.bad x l y) = ⟨0, ⟨#[]⟩, ((E.tok (.bad x l y)).spot.1, (E.tok (.bad x l y)).spot.2)⟩ := by rw [← h1, ← h2]
          rw [h3, HN0.out] at hbg
          cases hbg
      have HG := Lib.hid hbg
      clear hcall hbg
      by_cases hfull : n = most
      · subst hfull
        have hq0 : ((n : Int) == (n : Int)) = true := by simp
        go_wp2_with fail
        refine HC.out.mono ?_
        rintro e w2 ⟨rfl, b2⟩
        have GG := Lib.hid (Goes.below (w := w) (E := E) (s := .ok q) (d := 0) (by repeat (first | (with_reducible exact GG.out) | (with_reducible refine Goes.alloc ?_ _) | (with_reducible refine Goes.drew ?_) | ((with_reducible refine Goes.store ?_ HE.out ?_ _); rotate_left; focus (first | (simp; done) | (simp; omega) | omega)))) b2)
        clear b2
        go_wp2_with fail
        refine (fail_any E (.ok q) 0 _ 3 (by decide) (Goes.rd (w := w) (by repeat (first | (with_reducible exact GG.out) | (with_reducible refine Goes.alloc ?_ _) | (with_reducible refine Goes.drew ?_) | ((with_reducible refine Goes.store ?_ HE.out ?_ _); rotate_left; focus (first | (simp; done) | (simp; omega) | omega)))))).mono ?_
        rintro e w3 ⟨rfl, g3⟩
        have GG := Lib.hid (Goes.trans (w := w) (E := E) (s := .ok q) (d := 0) (by repeat (first | (with_reducible exact GG.out) | (with_reducible refine Goes.alloc ?_ _) | (with_reducible refine Goes.drew ?_) | ((with_reducible refine Goes.store ?_ HE.out ?_ _); rotate_left; focus (first | (simp; done) | (simp; omega) | omega)))) g3)
        clear g3
        go_wp2
        go_ret
        exact ⟨[], none, 0, 0, RS.fails E 3 (.ok q), rfl, RowAt.nil _ _ _ _ _, HLeft.out.full HG.out HNn.out.symm _, GG.out⟩
      · have hq0 : ((n : Int) == (most : Int)) = false := by simp; omega
        have hlt2 : n < most := by omega
        go_wp2_with fail
        refine HC.out.mono ?_
        rintro e w2 ⟨rfl, b2⟩
        have GG := Lib.hid (Goes.below (w := w) (E := E) (s := .ok q) (d := 0) (by repeat (first | (with_reducible exact GG.out) | (with_reducible refine Goes.alloc ?_ _) | (with_reducible refine Goes.drew ?_) | ((with_reducible refine Goes.store ?_ HE.out ?_ _); rotate_left; focus (first | (simp; done) | (simp; omega) | omega)))) b2)
        have HRow := Lib.hid (row_above (w' := w2) (CdAt.frames) HRow.out ((Above.refl _ _).below b2) (Nat.le_refl _))
        clear b2
        go_wp2_with fail
        refine (HR0.out _ (.ok q) (by repeat (first | (with_reducible exact GG.out) | (with_reducible refine Goes.alloc ?_ _) | (with_reducible refine Goes.drew ?_) | ((with_reducible refine Goes.store ?_ HE.out ?_ _); rotate_left; focus (first | (simp; done) | (simp; omega) | omega)))) HG.out).mono ?_
        rintro e w3 ⟨x, va, vn, vc, s3, rfl, hx, r3, g3⟩
        have hsz3 := g3.kept.size
        have hsz2 := GG.out.kept.size
        obtain ⟨css, hrow3⟩ := HRow.out
        have hrow3 := hrow3.frame (w' := w3) (S' := From w.heap.size) (CdAt.frames) (fun i hi hl => ⟨hi, g3.kept.block i hl (by unfold From at hi; omega)⟩)
        have hown3 : (w3.alloc (.cells #[.string x.name, .int .u8 x.kind, .int .i64 x.level, .int .i64 x.attack, .int .i64 x.guard, .slice va vn vc] 38)).ownsRow 0 38 6 (.slice a n c) n css.flatten := by
          have h0 := ownsRow_same hrow3.own (w' := w3.alloc (.cells #[.string x.name, .int .u8 x.kind, .int .i64 x.level, .int .i64 x.attack, .int .i64 x.guard, .slice va vn vc] 38)) (fun i hi => Below.heap_alloc _ _ _ (hrow3.own.lt i hi).2)
          rw [← HNn.out] at h0
          exact h0
        have G3 := Lib.hid (Goes.trans (w := w) (E := E) (s := .ok q) (d := 0) (by repeat (first | (with_reducible exact GG.out) | (with_reducible refine Goes.alloc ?_ _) | (with_reducible refine Goes.drew ?_) | ((with_reducible refine Goes.store ?_ HE.out ?_ _); rotate_left; focus (first | (simp; done) | (simp; omega) | omega)))) g3)
        have HX := Lib.hid (And.intro hx r3)
        have H2 := Lib.hid HRow.out
        have HO := Lib.hid hown3
        have H3 := Lib.hid hrow3
        clear g3 hx r3 hown3 hrow3
        go_wp2_with (at_builtin; (refine wpList_append_lies _ rfl (.tmp 20) (.tmp 23) 23 rfl 0 38 i0 _ 6 72 Tryz.underlying23 hi0 hz0 hz1 hz2 rfl (by omega) _ n css.flatten rfl HO.out ⟨w3.heap.size, 0, none⟩ 1 1 (cdV x (.slice va vn vc)) rfl rfl (World.news_of_block (cs := (cdV x (.slice va vn vc)).toArray) (t := 38) (fr := (0, 0)) (heap_alloc_new _ _)) (by simp [exV, stV, efV, cdV, slV, Value.oneCell']) (by omega) (by unfold maxLen; omega) (by omega) (Nat.zero_le _) _ rfl ?_; intro g cap w4 hown4 hgrow4 hat4 hlt4; have hgr4 : World.grownBy _ w4 (Value.slice a n c).ownBlock := hgrow4))
        have hblk : ∀ i, (Value.slice a n c).ownBlock = some i → w.heap.size ≤ i ∧ i < w2.heap.size := fun i hi => by
          obtain ⟨css', hr'⟩ := H2.out
          exact ⟨hr'.blk i hi, (hr'.own.lt i hi).2⟩
        have hsn := RowOf.snoc (CdAt.frames) (w := w3.alloc (.cells #[.string x.name, .int .u8 x.kind, .int .i64 x.level, .int .i64 x.attack, .int .i64 x.guard, .slice va vn vc] 38)) (w' := w4) (S := From w.heap.size) (Sx := From w2.heap.size) (x := x) (c := (cdV x (.slice va vn vc))) (H := w3.heap.size + 1) (b := 0) (g := g) (cap := cap)
          (H3.out.frame (CdAt.frames) fun i hi hl => ⟨hi, Below.heap_alloc _ _ _ hl⟩) rfl (by simp [exV, stV, efV, cdV, slV, Value.oneCell']) ((CdAt.frames) _ _ _ _ _ _ (HX.out.1) fun i hi hl => ⟨hi, Below.heap_alloc _ _ _ hl⟩)
          (fun i hi _ => ⟨by unfold From at *; omega, fun e => by have := (hblk i e).2; unfold From at hi; omega⟩) (by simp) (by unfold From; omega) (by rw [← HNn.out]; exact hown4) hgr4 (hat4.imp id fun e => by rw [e]; simp)
        have G4 := (G3.out.alloc (.cells #[.string x.name, .int .u8 x.kind, .int .i64 x.level, .int .i64 x.attack, .int .i64 x.guard, .slice va vn vc] 38)).grown HE.out hgr4 (fun i hi => (hblk i hi).1)
        have HF := Lib.hid (And.intro hsn G4)
        clear hsn G4 hblk hown4 hgr4 hgrow4 hat4
        go_wp2
        go_roundw
        case rel => exact ⟨acc ++ [x], _, n + 1, cap, s3, rfl, by rw [List.length_append, HNn.out]; rfl, by rw [List.length_append, ← HNn.out]; simp; omega, ⟨_, by have := HF.out.1; rw [← HNn.out] at this; exact this⟩, HF.out.2, HLeft.out.more HG.out (by rw [← HNn.out]; exact hlt2) HX.out.2⟩
        case measure => simp [lenV]; omega

end Go.Proofs.YtmhpopkbmnhkkaaGreatDoor
