import Derived.Test.YtmhpopkbmnhkkaaGreatDoorQParTop
/- Layer 2 (parse): a whole text is read: cards, expressions. -/
namespace Go.Proofs.YtmhpopkbmnhkkaaGreatDoor
open Go.RowKit Go.Lib

def WholeEnds {α : Type} (E : Env) (xs : α) (a : Option Addr) (n c : Nat) (s : RS) (w : World) (e : Ending) (w' : World) : Prop := ∃ s' : RS, Res (pWhole E.ts xs) s xs s' ∧ Goes w E s' 0 w' ∧
  ((∃ p, s' = .ok p ∧ e = .returned (.tuple #[.slice a n c, .agg #[.int .i64 0, .int .i64 0, .int .i64 0]])) ∨ (∃ x l y, s' = .bad x l y ∧ e = .returned (.tuple #[.slice none 0 0, .agg #[.int .i64 x, .int .i64 l, .int .i64 y]])))

theorem whole_res {α : Type} {E : Env} {w : World} {s : RS} {d : Int} (h : Rd w E s d) (xs : α) (hk : (E.tok s).kind = 0) : Res (pWhole E.ts xs) s xs s := by
  cases s with
  | ok p => exact Res.of_ok (by have hk' : (tk E.ts p).kind = 0 := hk; simp [pWhole, hk'])
  | bad x l c => rfl
theorem whole_fails {α : Type} {E : Env} {p : Nat} (xs : α) (hk : (tk E.ts p).kind ≠ 0) : Res (pWhole E.ts xs) (.ok p) xs (.bad 5 (tk E.ts p).spot.1 (tk E.ts p).spot.2) :=
  (Res.fails E 5 (.ok p) xs).congr fun q hq => by cases hq; simp [pWhole, hk]

set_option maxHeartbeats 2000000 in
set_option maxRecDepth 100000 in
theorem whole_cards (E : Env) (xs : List Cd) (a : Option Addr) (n c : Nat) (s : RS) (w : World) (h : Rd w E s 0) :
    Calls Tryz.prog 28 #[.pointer (some ⟨E.R, 0, none⟩), .slice a n c] w (WholeEnds E xs a n c s w) := by
  have HE := Lib.hid h.both
  have GG := Lib.hid (Goes.start h)
  have hlt := h.lt
  have hnext : Hid (∀ W, Rd W E s 0 → _) := fun W hW => next_reads E s 0 W hW
  by_cases hk : (E.tok s).kind = 0
  · have hres := whole_res h xs hk
    have HRes := Lib.hid hres
    clear h hres
    generalize E.tok s = t at *
    obtain ⟨kd, tx, l, y⟩ := t
    simp only [] at hk
    subst hk
    have hf0 : ∀ w : World, (Instr.field 103 (.agg #[.int .u8 0, .string tx, .int .i64 l, .int .i64 y]) 0).run Tryz.prog w = .ok (.int .u8 0) w := tokf0 0 tx l y
    go_enter Tryz.func28, Tryz.ntmps28
    go_wp2_with fail
    refine (hnext.out _ (Goes.rd (w := w) (by repeat (first | (with_reducible exact GG.out) | (with_reducible refine Goes.alloc ?_ _) | (with_reducible refine Goes.drew ?_) | ((with_reducible refine Goes.store ?_ HE.out ?_ _); rotate_left; focus (first | (simp; done) | (simp; omega) | omega)))))).mono ?_
    rintro e w1 ⟨rfl, b1⟩
    have hB : w1.heap[w.heap.size]? = some (.cells #[.int .i64 0, .int .i64 0, .int .i64 0] 28 (0, 0)) := by refine (b1.block _ (by simp)).trans ?_; exact heap_alloc_new _ _
    have e0 := cell_blk (i := 0) hB
    have e1 := cell_blk (i := 1) hB
    have e2 := cell_blk (i := 2) hB
    have ef0 := free_blk (i := 0) hB
    have ef1 := free_blk (i := 1) hB
    have ef2 := free_blk (i := 2) hB
    simp at e0 e1 e2
    have GG := Lib.hid (Goes.below (w := w) (E := E) (s := s) (d := 0) (by repeat (first | (with_reducible exact GG.out) | (with_reducible refine Goes.alloc ?_ _) | (with_reducible refine Goes.drew ?_) | ((with_reducible refine Goes.store ?_ HE.out ?_ _); rotate_left; focus (first | (simp; done) | (simp; omega) | omega)))) b1)
    obtain ⟨-, -, -, c3, c4, c5⟩ := GG.out.rd.cells
    have hRB : E.R ≠ w.heap.size := by omega
    cases s with
    | ok p =>
      simp only [RS.e, RS.l, RS.c] at c3 c4 c5
      clear hB b1
      go_wp2
      refine bodyPost_ret (v := .tuple #[.slice a n c, .agg #[.int .i64 0, .int .i64 0, .int .i64 0]]) (by simp [results, Tryz.results28, go_sem, e0, e1, e2]) rfl ?_
      exact ⟨.ok p, HRes.out, (by repeat (first | (with_reducible exact GG.out) | (with_reducible refine Goes.alloc ?_ _) | (with_reducible refine Goes.drew ?_) | ((with_reducible refine Goes.store ?_ HE.out ?_ _); rotate_left; focus (first | (simp; done) | (simp; omega) | omega)))), .inl ⟨p, rfl, rfl⟩⟩
    | bad x0 l0 y0 =>
      have hx0 : x0 ≠ 0 := GG.out.rd.fits
      have q : (x0 != 0) = true := by simpa using hx0
      simp only [RS.e, RS.l, RS.c] at c3 c4 c5
      clear hB b1 hx0
      go_wp2
      go_region
      go_wp2
      refine bodyPost_ret (v := .tuple #[.slice none 0 0, .agg #[.int .i64 x0, .int .i64 l0, .int .i64 y0]]) (by simp [results, Tryz.results28, go_sem, e0, e1, e2]) rfl ?_
      exact ⟨.bad x0 l0 y0, HRes.out, (by repeat (first | (with_reducible exact GG.out) | (with_reducible refine Goes.alloc ?_ _) | (with_reducible refine Goes.drew ?_) | ((with_reducible refine Goes.store ?_ HE.out ?_ _); rotate_left; focus (first | (simp; done) | (simp; omega) | omega)))), .inr ⟨x0, l0, y0, rfl, rfl⟩⟩
  · cases s with
    | bad x0 l0 y0 => exact absurd (tok_bad h).1 hk
    | ok p =>
      have hres := whole_fails (E := E) (p := p) xs hk
      have HRes := Lib.hid hres
      have hfl : RS.fails E 5 (.ok p) = .bad 5 (tk E.ts p).spot.1 (tk E.ts p).spot.2 := rfl
      have HFl := Lib.hid hfl
      have hfail : Hid (∀ W, Rd W E (.ok p) 0 → _) := fun W hW => fail_any E (.ok p) 0 W 5 (by decide) hW
      clear h hres hfl
      simp only [Env.tok, RS.pos] at hnext hk
      generalize tk E.ts p = t at *
      obtain ⟨kd, tx, l, y⟩ := t
      simp only [] at hk
      have q : ((kd : Int) != 0) = true := by simp; omega
      clear hk
      have hf0 := tokf0 kd tx l y
      go_enter Tryz.func28, Tryz.ntmps28
      go_wp2_with fail
      refine (hnext.out _ (Goes.rd (w := w) (by repeat (first | (with_reducible exact GG.out) | (with_reducible refine Goes.alloc ?_ _) | (with_reducible refine Goes.drew ?_) | ((with_reducible refine Goes.store ?_ HE.out ?_ _); rotate_left; focus (first | (simp; done) | (simp; omega) | omega)))))).mono ?_
      rintro e w1 ⟨rfl, b1⟩
      have HB : Hid (w1.heap[w.heap.size]? = some (.cells #[.int .i64 0, .int .i64 0, .int .i64 0] 28 (0, 0))) := by refine (b1.block _ (by simp)).trans ?_; exact heap_alloc_new _ _
      have GG := Lib.hid (Goes.below (w := w) (E := E) (s := .ok p) (d := 0) (by repeat (first | (with_reducible exact GG.out) | (with_reducible refine Goes.alloc ?_ _) | (with_reducible refine Goes.drew ?_) | ((with_reducible refine Goes.store ?_ HE.out ?_ _); rotate_left; focus (first | (simp; done) | (simp; omega) | omega)))) b1)
      clear b1
      go_wp2_with fail
      refine (hfail.out _ (Goes.rd (w := w) (by repeat (first | (with_reducible exact GG.out) | (with_reducible refine Goes.alloc ?_ _) | (with_reducible refine Goes.drew ?_) | ((with_reducible refine Goes.store ?_ HE.out ?_ _); rotate_left; focus (first | (simp; done) | (simp; omega) | omega)))))).mono ?_
      rintro e w2 ⟨rfl, g2⟩
      rw [HFl.out] at g2
      have hB : w2.heap[w.heap.size]? = some (.cells #[.int .i64 0, .int .i64 0, .int .i64 0] 28 (0, 0)) := by refine g2.kept.heap (by omega) ?_; exact (by repeat (first | (with_reducible exact HB.out) | (with_reducible exact heap_alloc_new _ _) | (with_reducible refine heap_old ?_) | (with_reducible refine heap_drew ?_) | ((with_reducible refine heap_other ?_ ?_); rotate_left; focus (first | (simp; done) | (simp; omega) | omega))))
      have e0 := cell_blk (i := 0) hB
      have e1 := cell_blk (i := 1) hB
      have e2 := cell_blk (i := 2) hB
      have ef0 := free_blk (i := 0) hB
      have ef1 := free_blk (i := 1) hB
      have ef2 := free_blk (i := 2) hB
      simp at e0 e1 e2
      obtain ⟨-, -, -, c3, c4, c5⟩ := g2.rd.cells
      have GG := Lib.hid (Goes.trans (w := w) (E := E) (s := .ok p) (d := 0) (by repeat (first | (with_reducible exact GG.out) | (with_reducible refine Goes.alloc ?_ _) | (with_reducible refine Goes.drew ?_) | ((with_reducible refine Goes.store ?_ HE.out ?_ _); rotate_left; focus (first | (simp; done) | (simp; omega) | omega)))) g2)
      have hRB : E.R ≠ w.heap.size := by omega
      simp only [RS.e, RS.l, RS.c] at c3 c4 c5
      clear hB g2
      go_wp2
      go_region
      go_wp2
      refine bodyPost_ret (v := .tuple #[.slice none 0 0, .agg #[.int .i64 5, .int .i64 l, .int .i64 y]]) (by simp [results, Tryz.results28, go_sem, e0, e1, e2]) rfl ?_
      exact ⟨.bad 5 l y, HRes.out, (by repeat (first | (with_reducible exact GG.out) | (with_reducible refine Goes.alloc ?_ _) | (with_reducible refine Goes.drew ?_) | ((with_reducible refine Goes.store ?_ HE.out ?_ _); rotate_left; focus (first | (simp; done) | (simp; omega) | omega)))), .inr ⟨5, l, y, rfl, rfl⟩⟩


set_option maxHeartbeats 2000000 in
set_option maxRecDepth 100000 in
theorem whole_exprs (E : Env) (xs : List Ex) (a : Option Addr) (n c : Nat) (s : RS) (w : World) (h : Rd w E s 0) :
    Calls Tryz.prog 39 #[.pointer (some ⟨E.R, 0, none⟩), .slice a n c] w (WholeEnds E xs a n c s w) := by
  have HE := Lib.hid h.both
  have GG := Lib.hid (Goes.start h)
  have hlt := h.lt
  have hnext : Hid (∀ W, Rd W E s 0 → _) := fun W hW => next_reads E s 0 W hW
  by_cases hk : (E.tok s).kind = 0
  · have hres := whole_res h xs hk
    have HRes := Lib.hid hres
    clear h hres
    generalize E.tok s = t at *
    obtain ⟨kd, tx, l, y⟩ := t
    simp only [] at hk
    subst hk
    have hf0 : ∀ w : World, (Instr.field 103 (.agg #[.int .u8 0, .string tx, .int .i64 l, .int .i64 y]) 0).run Tryz.prog w = .ok (.int .u8 0) w := tokf0 0 tx l y
    go_enter Tryz.func39, Tryz.ntmps39
    go_wp2_with fail
    refine (hnext.out _ (Goes.rd (w := w) (by repeat (first | (with_reducible exact GG.out) | (with_reducible refine Goes.alloc ?_ _) | (with_reducible refine Goes.drew ?_) | ((with_reducible refine Goes.store ?_ HE.out ?_ _); rotate_left; focus (first | (simp; done) | (simp; omega) | omega)))))).mono ?_
    rintro e w1 ⟨rfl, b1⟩
    have hB : w1.heap[w.heap.size]? = some (.cells #[.int .i64 0, .int .i64 0, .int .i64 0] 28 (0, 0)) := by refine (b1.block _ (by simp)).trans ?_; exact heap_alloc_new _ _
    have e0 := cell_blk (i := 0) hB
    have e1 := cell_blk (i := 1) hB
    have e2 := cell_blk (i := 2) hB
    have ef0 := free_blk (i := 0) hB
    have ef1 := free_blk (i := 1) hB
    have ef2 := free_blk (i := 2) hB
    simp at e0 e1 e2
    have GG := Lib.hid (Goes.below (w := w) (E := E) (s := s) (d := 0) (by repeat (first | (with_reducible exact GG.out) | (with_reducible refine Goes.alloc ?_ _) | (with_reducible refine Goes.drew ?_) | ((with_reducible refine Goes.store ?_ HE.out ?_ _); rotate_left; focus (first | (simp; done) | (simp; omega) | omega)))) b1)
    obtain ⟨-, -, -, c3, c4, c5⟩ := GG.out.rd.cells
    have hRB : E.R ≠ w.heap.size := by omega
    cases s with
    | ok p =>
      simp only [RS.e, RS.l, RS.c] at c3 c4 c5
      clear hB b1
      go_wp2
      refine bodyPost_ret (v := .tuple #[.slice a n c, .agg #[.int .i64 0, .int .i64 0, .int .i64 0]]) (by simp [results, Tryz.results39, go_sem, e0, e1, e2]) rfl ?_
      exact ⟨.ok p, HRes.out, (by repeat (first | (with_reducible exact GG.out) | (with_reducible refine Goes.alloc ?_ _) | (with_reducible refine Goes.drew ?_) | ((with_reducible refine Goes.store ?_ HE.out ?_ _); rotate_left; focus (first | (simp; done) | (simp; omega) | omega)))), .inl ⟨p, rfl, rfl⟩⟩
    | bad x0 l0 y0 =>
      have hx0 : x0 ≠ 0 := GG.out.rd.fits
      have q : (x0 != 0) = true := by simpa using hx0
      simp only [RS.e, RS.l, RS.c] at c3 c4 c5
      clear hB b1 hx0
      go_wp2
      go_region
      go_wp2
      refine bodyPost_ret (v := .tuple #[.slice none 0 0, .agg #[.int .i64 x0, .int .i64 l0, .int .i64 y0]]) (by simp [results, Tryz.results39, go_sem, e0, e1, e2]) rfl ?_
      exact ⟨.bad x0 l0 y0, HRes.out, (by repeat (first | (with_reducible exact GG.out) | (with_reducible refine Goes.alloc ?_ _) | (with_reducible refine Goes.drew ?_) | ((with_reducible refine Goes.store ?_ HE.out ?_ _); rotate_left; focus (first | (simp; done) | (simp; omega) | omega)))), .inr ⟨x0, l0, y0, rfl, rfl⟩⟩
  · cases s with
    | bad x0 l0 y0 => exact absurd (tok_bad h).1 hk
    | ok p =>
      have hres := whole_fails (E := E) (p := p) xs hk
      have HRes := Lib.hid hres
      have hfl : RS.fails E 5 (.ok p) = .bad 5 (tk E.ts p).spot.1 (tk E.ts p).spot.2 := rfl
      have HFl := Lib.hid hfl
      have hfail : Hid (∀ W, Rd W E (.ok p) 0 → _) := fun W hW => fail_any E (.ok p) 0 W 5 (by decide) hW
      clear h hres hfl
      simp only [Env.tok, RS.pos] at hnext hk
      generalize tk E.ts p = t at *
      obtain ⟨kd, tx, l, y⟩ := t
      simp only [] at hk
      have q : ((kd : Int) != 0) = true := by simp; omega
      clear hk
      have hf0 := tokf0 kd tx l y
      go_enter Tryz.func39, Tryz.ntmps39
      go_wp2_with fail
      refine (hnext.out _ (Goes.rd (w := w) (by repeat (first | (with_reducible exact GG.out) | (with_reducible refine Goes.alloc ?_ _) | (with_reducible refine Goes.drew ?_) | ((with_reducible refine Goes.store ?_ HE.out ?_ _); rotate_left; focus (first | (simp; done) | (simp; omega) | omega)))))).mono ?_
      rintro e w1 ⟨rfl, b1⟩
      have HB : Hid (w1.heap[w.heap.size]? = some (.cells #[.int .i64 0, .int .i64 0, .int .i64 0] 28 (0, 0))) := by refine (b1.block _ (by simp)).trans ?_; exact heap_alloc_new _ _
      have GG := Lib.hid (Goes.below (w := w) (E := E) (s := .ok p) (d := 0) (by repeat (first | (with_reducible exact GG.out) | (with_reducible refine Goes.alloc ?_ _) | (with_reducible refine Goes.drew ?_) | ((with_reducible refine Goes.store ?_ HE.out ?_ _); rotate_left; focus (first | (simp; done) | (simp; omega) | omega)))) b1)
      clear b1
      go_wp2_with fail
      refine (hfail.out _ (Goes.rd (w := w) (by repeat (first | (with_reducible exact GG.out) | (with_reducible refine Goes.alloc ?_ _) | (with_reducible refine Goes.drew ?_) | ((with_reducible refine Goes.store ?_ HE.out ?_ _); rotate_left; focus (first | (simp; done) | (simp; omega) | omega)))))).mono ?_
      rintro e w2 ⟨rfl, g2⟩
      rw [HFl.out] at g2
      have hB : w2.heap[w.heap.size]? = some (.cells #[.int .i64 0, .int .i64 0, .int .i64 0] 28 (0, 0)) := by refine g2.kept.heap (by omega) ?_; exact (by repeat (first | (with_reducible exact HB.out) | (with_reducible exact heap_alloc_new _ _) | (with_reducible refine heap_old ?_) | (with_reducible refine heap_drew ?_) | ((with_reducible refine heap_other ?_ ?_); rotate_left; focus (first | (simp; done) | (simp; omega) | omega))))
      have e0 := cell_blk (i := 0) hB
      have e1 := cell_blk (i := 1) hB
      have e2 := cell_blk (i := 2) hB
      have ef0 := free_blk (i := 0) hB
      have ef1 := free_blk (i := 1) hB
      have ef2 := free_blk (i := 2) hB
      simp at e0 e1 e2
      obtain ⟨-, -, -, c3, c4, c5⟩ := g2.rd.cells
      have GG := Lib.hid (Goes.trans (w := w) (E := E) (s := .ok p) (d := 0) (by repeat (first | (with_reducible exact GG.out) | (with_reducible refine Goes.alloc ?_ _) | (with_reducible refine Goes.drew ?_) | ((with_reducible refine Goes.store ?_ HE.out ?_ _); rotate_left; focus (first | (simp; done) | (simp; omega) | omega)))) g2)
      have hRB : E.R ≠ w.heap.size := by omega
      simp only [RS.e, RS.l, RS.c] at c3 c4 c5
      clear hB g2
      go_wp2
      go_region
      go_wp2
      refine bodyPost_ret (v := .tuple #[.slice none 0 0, .agg #[.int .i64 5, .int .i64 l, .int .i64 y]]) (by simp [results, Tryz.results39, go_sem, e0, e1, e2]) rfl ?_
      exact ⟨.bad 5 l y, HRes.out, (by repeat (first | (with_reducible exact GG.out) | (with_reducible refine Goes.alloc ?_ _) | (with_reducible refine Goes.drew ?_) | ((with_reducible refine Goes.store ?_ HE.out ?_ _); rotate_left; focus (first | (simp; done) | (simp; omega) | omega)))), .inr ⟨5, l, y, rfl, rfl⟩⟩

/-- What a text's reader answers, in memory. -/
def ReadEnds {α : Type} (ty : TypeId) (size : Nat) (P : World → (Nat → Prop) → List Value → α → Prop) (r : List α × Flt) (w : World) (e : Ending) (w' : World) : Prop := ∃ (a : Option Addr) (n c : Nat) (x l y : Int),
  e = .returned (.tuple #[.slice a n c, .agg #[.int .i64 x, .int .i64 l, .int .i64 y]]) ∧ RowAt w' (From w.heap.size) ty size P (.slice a n c) r.1 ∧ r.2 = (x, l, y) ∧ Below w.heap.size w w'
theorem read_good {α : Type} {p : List Tok → Par (List α)} {s : ByteArray} {xs : List α} {q : Nat} (h0 : (scanOf s).2.1 = 0) (h : Res (p (scanOf s).1) (.ok 0) xs (.ok q)) : readAll p s = (xs, 0, 0, 0) := by
  unfold readAll; rw [if_pos h0]
  simp only [Res] at h
  cases hp : p (scanOf s).1 0 with
  | error t => rw [hp] at h; cases h
  | ok r => obtain ⟨l, q'⟩ := r; rw [hp] at h; simp only at h ⊢; rw [h.1]
theorem read_fails {α : Type} {p : List Tok → Par (List α)} {s : ByteArray} {xs : List α} {x l y : Int} (h0 : (scanOf s).2.1 = 0) (h : Res (p (scanOf s).1) (.ok 0) xs (.bad x l y)) : readAll p s = ([], x, l, y) := by
  unfold readAll; rw [if_pos h0]
  simp only [Res] at h
  cases hp : p (scanOf s).1 0 with
  | error t => obtain ⟨a, b, c⟩ := t; rw [hp] at h; simp only at h ⊢; cases h; rfl
  | ok r => obtain ⟨l, q'⟩ := r; rw [hp] at h; simp only at h; cases h.2
theorem read_scan {α : Type} {p : List Tok → Par (List α)} {s : ByteArray} (h0 : (scanOf s).2.1 ≠ 0) : readAll p s = ([], ((scanOf s).2.1 : Int), (scanOf s).2.2.1, (scanOf s).2.2.2) := by
  unfold readAll; rw [if_neg h0]

set_option maxHeartbeats 2000000 in
set_option maxRecDepth 100000 in
theorem pool_reads (s : ByteArray) (w : World) (hs : s.size ≤ maxLen) (hT : PTabs w) : Calls Tryz.prog 8 #[.string s] w (ReadEnds 38 6 CdAt (poolOf s) w) := by
  have H1 := Lib.hid (hT.below ((Below.refl _ _).alloc (Nat.le_refl _) (.cells #[.int .i64 0, .int .i64 0, .int .i64 0] 28)))
  have ho : Hid (∀ W, PTabs W → _) := fun W hW => open_any s W hs hW
  clear hs hT
  go_enter Tryz.func8, Tryz.ntmps8
  go_wp2_with fail
  refine (ho.out _ H1.out).mono ?_
  rintro e w1 ⟨er, el, ec, her, hel, hec, b1, hcase⟩
  have hB : w1.heap[w.heap.size]? = some (.cells #[.int .i64 0, .int .i64 0, .int .i64 0] 28 (0, 0)) := (b1.block _ (by simp)).trans (heap_alloc_new _ _)
  have B1 : Hid (Below w.heap.size w w1) := ((Below.refl _ _).alloc (Nat.le_refl _) _).trans (b1.mono (by simp))
  have sz1 : w.heap.size < w1.heap.size := heap_lt hB
  rcases hcase with ⟨hne, rfl⟩ | ⟨h0, E, hts, rfl, hR, hrd⟩
  · skip
    have e0 := cell_blk (i := 0) hB
    have e1 := cell_blk (i := 1) hB
    have e2 := cell_blk (i := 2) hB
    have ef0 := free_blk (i := 0) hB
    have ef1 := free_blk (i := 1) hB
    have ef2 := free_blk (i := 2) hB
    simp at e0 e1 e2
    have hres : Hid (poolOf s = ([], er, el, ec)) := by rw [her, hel, hec]; exact read_scan (by omega)
    have q : (er != 0) = true := by simpa using hne
    have nz1 : w.heap.size ≠ w1.heap.size := Nat.ne_of_lt sz1
    have nz2 : w1.heap.size ≠ w.heap.size := Ne.symm nz1
    clear her hel hec hB b1 hne
    go_wp2
    go_region
    go_wp2
    refine bodyPost_ret (v := .tuple #[.slice none 0 0, .agg #[.int .i64 er, .int .i64 el, .int .i64 ec]]) (by simp [results, Tryz.results8, go_sem, e0, e1, e2, sz1, nz1, nz2]) rfl ?_
    refine ⟨none, 0, 0, er, el, ec, rfl, by rw [hres.out]; exact RowAt.nil _ _ _ _ _, by rw [hres.out], ?_⟩
    exact ((((B1.out.setCell (p := ⟨w.heap.size, 0, none⟩) (Nat.le_refl _) _).setCell (p := ⟨w.heap.size, 1, none⟩) (Nat.le_refl _) _).setCell (p := ⟨w.heap.size, 2, none⟩) (Nat.le_refl _) _).alloc (by simp; omega) _).drew
  · subst h0
    have HSC : Hid ((scanOf s).2.1 = 0) := by unfold Hid; omega
    have HTS := Lib.hid hts
    have hR2 : w.heap.size + 1 ≤ E.R := by simpa using hR
    have hrd2 := hrd.below ((Below.refl _ _).alloc (Nat.le_refl _) (.cells #[.int .i64 0, .int .i64 0, .int .i64 0] 28))
    have HE := Lib.hid hrd2.both
    have GG := Lib.hid (Goes.start hrd2)
    have hlt := hrd2.lt
    simp at hlt
    have HB : Hid ((w1.alloc (.cells #[.int .i64 0, .int .i64 0, .int .i64 0] 28)).heap[w.heap.size]? = some (.cells #[.int .i64 0, .int .i64 0, .int .i64 0] 28 (0, 0))) := heap_old hB
    obtain ⟨W0, hW0⟩ : ∃ W0, W0 = w1.alloc (.cells #[.int .i64 0, .int .i64 0, .int .i64 0] 28) := ⟨_, rfl⟩
    have B0 : Hid (Below w.heap.size w W0) := by rw [hW0]; exact B1.out.alloc (by omega) _
    rw [← hW0] at HE GG HB
    have sz0 : w.heap.size + 1 < W0.heap.size := by rw [hW0]; simp; omega
    have HW := Lib.hid hW0
    clear her hel hec hts hB b1 hrd hrd2 hR hW0
    go_wp2_with fail
    rw [← HW.out]
    refine (kinds_any E.R _ HE.out.2).mono ?_
    rintro e w2 ⟨v2, rfl, hv2, b2⟩
    have HV := Lib.hid hv2
    have GG2 := Lib.hid (GG.out.below b2)
    have HB : Hid (w2.heap[w.heap.size]? = some (.cells #[.int .i64 0, .int .i64 0, .int .i64 0] 28 (0, 0))) := (b2.block _ (by omega)).trans HB.out
    have hfm : ∃ a n c, v2 = .slice a n c := by obtain ⟨b, c, hv, -⟩ := hv2; exact ⟨_, _, _, hv⟩
    obtain ⟨a2, n2, c2, rfl⟩ := hfm
    have hlt2 := GG2.out.rd.lt
    clear hv2 b2
    go_wp2_with fail
    refine (oneWord_any E.R _ _ kindsW HV.out hlt2).mono ?_
    rintro e w3 ⟨tA, rfl, ht, b3⟩
    have HT := Lib.hid ht
    have GG3 := Lib.hid (GG2.out.below b3)
    have GG := GG3
    have HB : Hid (w3.heap[w.heap.size]? = some (.cells #[.int .i64 0, .int .i64 0, .int .i64 0] 28 (0, 0))) := (b3.block _ (heap_lt HB.out)).trans HB.out
    have sz3 : w.heap.size + 1 < w3.heap.size := by have := GG3.out.kept.size; omega
    clear ht b3
    go_wp2_with fail
    refine (many_cards E (.ok 0) _ 64 tA (inW kindsW) (pCard E.ts) (by omega) (inW_end _ (by decide)) (fun W s k tx l c g => tells_word E.R tA W kindsW (by decide) (HT.out.kept g.kept) k tx l c) (fun W s g _ => card_any E s W g.rd) GG.out.rd).mono ?_
    rintro e w4 ⟨xs, a, n, c, s4, rfl, hrow, r4, g4⟩
    have HB : Hid (w4.heap[w.heap.size]? = some (.cells #[.int .i64 0, .int .i64 0, .int .i64 0] 28 (0, 0))) := by refine g4.kept.heap (by omega) ?_; exact (by repeat (first | (with_reducible exact HB.out) | (with_reducible exact heap_alloc_new _ _) | (with_reducible refine heap_old ?_) | (with_reducible refine heap_drew ?_) | ((with_reducible refine heap_other ?_ ?_); rotate_left; focus (first | (simp; done) | (simp; omega) | omega))))
    have GG := Lib.hid (Goes.trans (w := W0) (E := E) (s := .ok 0) (d := 0) GG.out g4)
    have HRow := Lib.hid hrow
    have hltR : E.R < w3.heap.size := GG3.out.rd.lt
    have szW : w.heap.size + 1 ≤ w3.heap.size := by have := GG3.out.kept.size; omega
    have R4 := Lib.hid r4
    clear hrow r4 g4
    go_wp2_with fail
    refine (whole_cards E xs a n c s4 _ GG.out.rd).mono ?_
    rintro e w5 ⟨s5, r5, g5, hcase⟩
    have hB : w5.heap[w.heap.size]? = some (.cells #[.int .i64 0, .int .i64 0, .int .i64 0] 28 (0, 0)) := g5.kept.heap (by omega) HB.out
    have HRow := Lib.hid (row_above (w' := w5) (CdAt.frames) HRow.out ((Above.refl _ _).kept g5.kept hltR) (Nat.le_refl _))
    have B5 : Hid (Below w.heap.size w w5) := B0.out.trans ((Goes.trans GG.out g5).kept.below (by omega) (by omega))
    have HRes := Lib.hid (Res.bind R4.out r5)
    have e0 := cell_blk (i := 0) hB
    have e1 := cell_blk (i := 1) hB
    have e2 := cell_blk (i := 2) hB
    have ef0 := free_blk (i := 0) hB
    have ef1 := free_blk (i := 1) hB
    have ef2 := free_blk (i := 2) hB
    simp at e0 e1 e2
    clear r5 g5 hB
    rw [HTS.out] at HRes
    rcases hcase with ⟨p, rfl, rfl⟩ | ⟨x, l, y, rfl, rfl⟩
    · have hrs := Lib.hid (read_good (p := pPool) HSC.out HRes.out)
      go_wp2
      refine bodyPost_ret (v := .tuple #[.slice a n c, .agg #[.int .i64 0, .int .i64 0, .int .i64 0]]) (by simp [results, Tryz.results8, go_sem, e0, e1, e2]) rfl ?_
      refine ⟨a, n, c, 0, 0, 0, rfl, ?_, by rw [show poolOf s = (xs, 0, 0, 0) from hrs.out], ?_⟩
      · rw [show poolOf s = (xs, 0, 0, 0) from hrs.out]
        exact row_above (w := w5) (B := w3.heap.size) (CdAt.frames) HRow.out (by repeat (first | (with_reducible exact Above.refl _ _) | (with_reducible refine Above.alloc ?_ _) | (with_reducible refine Above.drew ?_) | ((with_reducible refine Above.setCell ?_ ?_ _); rotate_left; focus (first | (simp; done) | (simp; omega) | omega)))) (by omega)
      · exact ((B5.out.setCell (p := ⟨w.heap.size, 0, none⟩) (Nat.le_refl _) _).setCell (p := ⟨w.heap.size, 1, none⟩) (Nat.le_refl _) _).setCell (p := ⟨w.heap.size, 2, none⟩) (Nat.le_refl _) _
    · have hrs := Lib.hid (read_fails (p := pPool) HSC.out HRes.out)
      go_wp2
      refine bodyPost_ret (v := .tuple #[.slice none 0 0, .agg #[.int .i64 x, .int .i64 l, .int .i64 y]]) (by simp [results, Tryz.results8, go_sem, e0, e1, e2]) rfl ?_
      refine ⟨none, 0, 0, x, l, y, rfl, ?_, by rw [show poolOf s = ([], x, l, y) from hrs.out], ?_⟩
      · rw [show poolOf s = ([], x, l, y) from hrs.out]
        exact RowAt.nil _ _ _ _ _
      · exact ((B5.out.setCell (p := ⟨w.heap.size, 0, none⟩) (Nat.le_refl _) _).setCell (p := ⟨w.heap.size, 1, none⟩) (Nat.le_refl _) _).setCell (p := ⟨w.heap.size, 2, none⟩) (Nat.le_refl _) _

set_option maxHeartbeats 2000000 in
set_option maxRecDepth 100000 in
theorem exprs_reads (s : ByteArray) (w : World) (hs : s.size ≤ maxLen) (hT : PTabs w) : Calls Tryz.prog 10 #[.string s] w (ReadEnds 46 7 (ExAt 5) (exprsOf s) w) := by
  have H1 := Lib.hid (hT.below ((Below.refl _ _).alloc (Nat.le_refl _) (.cells #[.int .i64 0, .int .i64 0, .int .i64 0] 28)))
  have ho : Hid (∀ W, PTabs W → _) := fun W hW => open_any s W hs hW
  clear hs hT
  go_enter Tryz.func10, Tryz.ntmps10
  go_wp2_with fail
  refine (ho.out _ H1.out).mono ?_
  rintro e w1 ⟨er, el, ec, her, hel, hec, b1, hcase⟩
  have hB : w1.heap[w.heap.size]? = some (.cells #[.int .i64 0, .int .i64 0, .int .i64 0] 28 (0, 0)) := (b1.block _ (by simp)).trans (heap_alloc_new _ _)
  have B1 : Hid (Below w.heap.size w w1) := ((Below.refl _ _).alloc (Nat.le_refl _) _).trans (b1.mono (by simp))
  have sz1 : w.heap.size < w1.heap.size := heap_lt hB
  rcases hcase with ⟨hne, rfl⟩ | ⟨h0, E, hts, rfl, hR, hrd⟩
  · skip
    have e0 := cell_blk (i := 0) hB
    have e1 := cell_blk (i := 1) hB
    have e2 := cell_blk (i := 2) hB
    have ef0 := free_blk (i := 0) hB
    have ef1 := free_blk (i := 1) hB
    have ef2 := free_blk (i := 2) hB
    simp at e0 e1 e2
    have hres : Hid (exprsOf s = ([], er, el, ec)) := by rw [her, hel, hec]; exact read_scan (by omega)
    have q : (er != 0) = true := by simpa using hne
    have nz1 : w.heap.size ≠ w1.heap.size := Nat.ne_of_lt sz1
    have nz2 : w1.heap.size ≠ w.heap.size := Ne.symm nz1
    clear her hel hec hB b1 hne
    go_wp2
    go_region
    go_wp2
    refine bodyPost_ret (v := .tuple #[.slice none 0 0, .agg #[.int .i64 er, .int .i64 el, .int .i64 ec]]) (by simp [results, Tryz.results10, go_sem, e0, e1, e2, sz1, nz1, nz2]) rfl ?_
    refine ⟨none, 0, 0, er, el, ec, rfl, by rw [hres.out]; exact RowAt.nil _ _ _ _ _, by rw [hres.out], ?_⟩
    exact ((((B1.out.setCell (p := ⟨w.heap.size, 0, none⟩) (Nat.le_refl _) _).setCell (p := ⟨w.heap.size, 1, none⟩) (Nat.le_refl _) _).setCell (p := ⟨w.heap.size, 2, none⟩) (Nat.le_refl _) _).alloc (by simp; omega) _).drew
  · subst h0
    have HSC : Hid ((scanOf s).2.1 = 0) := by unfold Hid; omega
    have HTS := Lib.hid hts
    have hR2 : w.heap.size + 1 ≤ E.R := by simpa using hR
    have hrd2 := hrd.below ((Below.refl _ _).alloc (Nat.le_refl _) (.cells #[.int .i64 0, .int .i64 0, .int .i64 0] 28))
    have HE := Lib.hid hrd2.both
    have GG := Lib.hid (Goes.start hrd2)
    have hlt := hrd2.lt
    simp at hlt
    have HB : Hid ((w1.alloc (.cells #[.int .i64 0, .int .i64 0, .int .i64 0] 28)).heap[w.heap.size]? = some (.cells #[.int .i64 0, .int .i64 0, .int .i64 0] 28 (0, 0))) := heap_old hB
    obtain ⟨W0, hW0⟩ : ∃ W0, W0 = w1.alloc (.cells #[.int .i64 0, .int .i64 0, .int .i64 0] 28) := ⟨_, rfl⟩
    have B0 : Hid (Below w.heap.size w W0) := by rw [hW0]; exact B1.out.alloc (by omega) _
    rw [← hW0] at HE GG HB
    have sz0 : w.heap.size + 1 < W0.heap.size := by rw [hW0]; simp; omega
    have HW := Lib.hid hW0
    clear her hel hec hts hB b1 hrd hrd2 hR hW0
    go_wp2_with fail
    rw [← HW.out]
    have GG3 := GG
    refine (many_exprs E (.ok 0) _ 6 0 beginsB (pExpr E.ts 5) (by omega) (fun l c => by rw [beginsB, inW_end _ (by decide)]; rfl) (fun W s k tx l c g => beginsExpr_any W k tx l c) (fun W s g _ => expr_five E s W g.rd) GG.out.rd).mono ?_
    rintro e w4 ⟨xs, a, n, c, s4, rfl, hrow, r4, g4⟩
    have HB : Hid (w4.heap[w.heap.size]? = some (.cells #[.int .i64 0, .int .i64 0, .int .i64 0] 28 (0, 0))) := by refine g4.kept.heap (by omega) ?_; exact (by repeat (first | (with_reducible exact HB.out) | (with_reducible exact heap_alloc_new _ _) | (with_reducible refine heap_old ?_) | (with_reducible refine heap_drew ?_) | ((with_reducible refine heap_other ?_ ?_); rotate_left; focus (first | (simp; done) | (simp; omega) | omega))))
    have GG := Lib.hid (Goes.trans (w := W0) (E := E) (s := .ok 0) (d := 0) GG.out g4)
    have HRow := Lib.hid hrow
    have hltR : E.R < W0.heap.size := GG3.out.rd.lt
    have szW : w.heap.size + 1 ≤ W0.heap.size := by have := GG3.out.kept.size; omega
    have R4 := Lib.hid r4
    clear hrow r4 g4
    go_wp2_with fail
    refine (whole_exprs E xs a n c s4 _ GG.out.rd).mono ?_
    rintro e w5 ⟨s5, r5, g5, hcase⟩
    have hB : w5.heap[w.heap.size]? = some (.cells #[.int .i64 0, .int .i64 0, .int .i64 0] 28 (0, 0)) := g5.kept.heap (by omega) HB.out
    have HRow := Lib.hid (row_above (w' := w5) (ExAt.frames 5) HRow.out ((Above.refl _ _).kept g5.kept hltR) (Nat.le_refl _))
    have B5 : Hid (Below w.heap.size w w5) := B0.out.trans ((Goes.trans GG.out g5).kept.below (by omega) (by omega))
    have HRes := Lib.hid (Res.bind R4.out r5)
    have e0 := cell_blk (i := 0) hB
    have e1 := cell_blk (i := 1) hB
    have e2 := cell_blk (i := 2) hB
    have ef0 := free_blk (i := 0) hB
    have ef1 := free_blk (i := 1) hB
    have ef2 := free_blk (i := 2) hB
    simp at e0 e1 e2
    clear r5 g5 hB
    rw [HTS.out] at HRes
    rcases hcase with ⟨p, rfl, rfl⟩ | ⟨x, l, y, rfl, rfl⟩
    · have hrs := Lib.hid (read_good (p := pExprs) HSC.out HRes.out)
      go_wp2
      refine bodyPost_ret (v := .tuple #[.slice a n c, .agg #[.int .i64 0, .int .i64 0, .int .i64 0]]) (by simp [results, Tryz.results10, go_sem, e0, e1, e2]) rfl ?_
      refine ⟨a, n, c, 0, 0, 0, rfl, ?_, by rw [show exprsOf s = (xs, 0, 0, 0) from hrs.out], ?_⟩
      · rw [show exprsOf s = (xs, 0, 0, 0) from hrs.out]
        exact row_above (w := w5) (B := W0.heap.size) (ExAt.frames 5) HRow.out (by repeat (first | (with_reducible exact Above.refl _ _) | (with_reducible refine Above.alloc ?_ _) | (with_reducible refine Above.drew ?_) | ((with_reducible refine Above.setCell ?_ ?_ _); rotate_left; focus (first | (simp; done) | (simp; omega) | omega)))) (by omega)
      · exact ((B5.out.setCell (p := ⟨w.heap.size, 0, none⟩) (Nat.le_refl _) _).setCell (p := ⟨w.heap.size, 1, none⟩) (Nat.le_refl _) _).setCell (p := ⟨w.heap.size, 2, none⟩) (Nat.le_refl _) _
    · have hrs := Lib.hid (read_fails (p := pExprs) HSC.out HRes.out)
      go_wp2
      refine bodyPost_ret (v := .tuple #[.slice none 0 0, .agg #[.int .i64 x, .int .i64 l, .int .i64 y]]) (by simp [results, Tryz.results10, go_sem, e0, e1, e2]) rfl ?_
      refine ⟨none, 0, 0, x, l, y, rfl, ?_, by rw [show exprsOf s = ([], x, l, y) from hrs.out], ?_⟩
      · rw [show exprsOf s = ([], x, l, y) from hrs.out]
        exact RowAt.nil _ _ _ _ _
      · exact ((B5.out.setCell (p := ⟨w.heap.size, 0, none⟩) (Nat.le_refl _) _).setCell (p := ⟨w.heap.size, 1, none⟩) (Nat.le_refl _) _).setCell (p := ⟨w.heap.size, 2, none⟩) (Nat.le_refl _) _
end Go.Proofs.YtmhpopkbmnhkkaaGreatDoor
