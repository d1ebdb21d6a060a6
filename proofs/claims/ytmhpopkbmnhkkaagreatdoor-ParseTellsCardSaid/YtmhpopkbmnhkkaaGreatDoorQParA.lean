import Derived.Test.YtmhpopkbmnhkkaaGreatDoorQPar
import Derived.Deep.QuietTactic
import Derived.BigQuiet
import Derived.RegionTactic
import Derived.ChangeAlike
import Derived.BigRegion
import Derived.Lib.SmallJoins
import Derived.MapKept
/- Layer 2 (parse): the small calls of a reader. -/
namespace Go.Proofs.YtmhpopkbmnhkkaaGreatDoor
open Go.RowKit Go.Lib

theorem Rd.cells {w : World} {E : Env} {s : RS} {d : Int} (h : Rd w E s d) : w.cell? ⟨E.R, 0, none⟩ = some (.slice (some ⟨E.G, s.pos E.n * 4, none⟩) (E.n - s.pos E.n) (E.cap - s.pos E.n)) ∧ w.cell? ⟨E.R, 1, none⟩ = some (.map (some E.M)) ∧
    w.cell? ⟨E.R, 2, none⟩ = some (.int .i64 d) ∧ w.cell? ⟨E.R, 3, none⟩ = some (.int .i64 s.e) ∧ w.cell? ⟨E.R, 4, none⟩ = some (.int .i64 s.l) ∧ w.cell? ⟨E.R, 5, none⟩ = some (.int .i64 s.c) :=
  ⟨by rw [cell_blk h.rd]; rfl, by rw [cell_blk h.rd]; rfl, by rw [cell_blk h.rd]; rfl, by rw [cell_blk h.rd]; rfl, by rw [cell_blk h.rd]; rfl, by rw [cell_blk h.rd]; rfl⟩
theorem Rd.free {w : World} {E : Env} {s : RS} {d : Int} (h : Rd w E s d) (i : Nat) : w.frozen? ⟨E.R, i, none⟩ = false := free_blk h.rd

set_option maxHeartbeats 1000000 in
set_option maxRecDepth 100000 in
theorem next_reads (E : Env) (s : RS) (d : Int) (w : World) (h : Rd w E s d) :
    Calls Tryz.prog 59 #[.pointer (some ⟨E.R, 0, none⟩)] w fun e w' => e = .returned (.agg #[.int .u8 (E.tok s).kind, .string (E.tok s).text, .int .i64 (E.tok s).spot.1, .int .i64 (E.tok s).spot.2]) ∧ Below w.heap.size w w' := by
  have hp := h.posLt
  obtain ⟨c0, -, -, -, -, -⟩ := h.cells
  obtain ⟨a0, a1, a2, a3⟩ := h.env.toks _ _ (tk_get hp)
  have hg := heap_lt h.rd
  have hG := World.block_lt_of_cell? _ _ a0
  have hcap := h.env.fit
  unfold maxLen at hcap
  unfold Env.tok
  generalize tk E.ts (s.pos E.n) = t at *
  obtain ⟨k, x, l, c⟩ := t
  simp only [] at *
  generalize s.pos E.n = p at *
  clear h
  generalize E.n = n at *
  generalize E.cap = cap at *
  generalize E.R = R at *
  generalize E.G = G at *
  have hlt : (0 : Int) < ((n - p : Nat) : Int) := by omega
  go_enter Tryz.func59, Tryz.ntmps59
  go_wp2
  refine bodyPost_ret (v := .agg #[.int .u8 k, .string x, .int .i64 l, .int .i64 c]) (by simp [results, Tryz.results59, go_sem]) rfl ⟨rfl, ?_⟩
  exact (by repeat (first | (with_reducible exact Below.refl _ _) | (with_reducible assumption) | ((with_reducible refine Below.setCell ?_ ?_ _); rotate_left; focus (simp; done)) | ((with_reducible refine Below.alloc ?_ ?_ _); rotate_left; focus (simp; done)) | (with_reducible refine Below.drew ?_)))

theorem int_gt {a b : Nat} (h : a < b) : decide ((b : Int) > (a : Int)) = true := by simp; omega

set_option maxRecDepth 100000 in
/-- The next token is passed, if it is not the last. -/
theorem pass_on (E : Env) (p : Nat) (d : Int) (w : World) (h : Rd w E (.ok p) d) (hp : p + 1 < E.n) :
    Calls Tryz.prog 114 #[.pointer (some ⟨E.R, 0, none⟩)] w fun e w' => e = .returned (.tuple #[]) ∧ Goes w E (.ok (p + 1)) d w' := by
  obtain ⟨c0, -, -, -, -, -⟩ := h.cells
  have f0 := h.free 0
  have hg := heap_lt h.rd
  have hcap := h.env.fit
  unfold maxLen at hcap
  have HH := Lib.hid h
  clear h
  simp only [RS.pos] at c0
  have hn : (1 : Int) < ((E.n - p : Nat) : Int) := by omega
  have e1 : p * 4 + 4 = (p + 1) * 4 := by omega
  have e2 : E.n - p - 1 = E.n - (p + 1) := by omega
  have e3 : E.cap - p - 1 = E.cap - (p + 1) := by omega
  have hsl : Hid (Goes w E (.ok (p + 1)) d (w.setCell ⟨E.R, 0, none⟩ (.slice (some ⟨E.G, p * 4 + 4, none⟩) (E.n - p - 1) (E.cap - p - 1)))) := by
    have k := (Kept.refl E.R w).setCell (p := ⟨E.R, 0, none⟩) (.inl rfl) (.slice (some ⟨E.G, (p + 1) * 4, none⟩) (E.n - (p + 1)) (E.cap - (p + 1)))
    rw [e1, e2, e3]
    exact ⟨⟨HH.out.env.kept k, heap_set HH.out.rd _, hp⟩, k⟩
  clear e1 e2 e3
  have hc2 : 1 ≤ E.n - p := by omega
  have hc3 : E.n - p ≤ E.cap - p := by omega
  have hc4 : 1 < E.cap - p := by omega
  go_enter Tryz.func114, Tryz.ntmps114
  go_wp2
  go_end0
  exact ⟨rfl, hsl.out⟩

theorem tokf0 (k : Nat) (x : ByteArray) (l c : Int) : ∀ w : World, (Instr.field 103 (.agg #[.int .u8 k, .string x, .int .i64 l, .int .i64 c]) 0).run Tryz.prog w = .ok (.int .u8 k) w := fun _ => by kernel_rfl
theorem tokf1 (k : Nat) (x : ByteArray) (l c : Int) : ∀ w : World, (Instr.field 103 (.agg #[.int .u8 k, .string x, .int .i64 l, .int .i64 c]) 1).run Tryz.prog w = .ok (.string x) w := fun _ => by kernel_rfl
theorem tokf2 (k : Nat) (x : ByteArray) (l c : Int) : ∀ w : World, (Instr.field 103 (.agg #[.int .u8 k, .string x, .int .i64 l, .int .i64 c]) 2).run Tryz.prog w = .ok (.agg #[.int .i64 l, .int .i64 c]) w := fun _ => by kernel_rfl

def RS.fails (E : Env) (x : Int) : RS → RS
  | .ok p => .bad x (tk E.ts p).spot.1 (tk E.ts p).spot.2
  | s => s
theorem Res.fails {α : Type} (E : Env) (x : Int) (s : RS) (a : α) : Res (pFail E.ts x) s a (s.fails E x) := by cases s <;> simp [Res, pFail, RS.fails]

theorem fails_ok (E : Env) (p : Nat) (d : Int) (w w1 : World) (x l c : Int) (hx : x ≠ 0) (h : Rd w1 E (.ok p) d) (b : Below w.heap.size w w1) (hw : Rd w E (.ok p) d) : Goes w E (.bad x l c) d
    ((((w1.setCell ⟨E.R, 3, none⟩ (.int .i64 x)).setCell ⟨E.R, 4, none⟩ (.int .i64 l)).setCell ⟨E.R, 5, none⟩ (.int .i64 c)).setCell ⟨E.R, 0, none⟩
      (.slice (some ⟨E.G, p * 4 + (E.n - p - 1) * 4, none⟩) (E.n - p - (E.n - p - 1)) (E.cap - p - (E.n - p - 1)))).drew := by
  have hp : p < E.n := h.fits
  have hcap := h.env.fit
  have k := (((((Kept.refl E.R w1).setCell (p := ⟨E.R, 3, none⟩) (.inl rfl) (.int .i64 x)).setCell (p := ⟨E.R, 4, none⟩) (.inl rfl) (.int .i64 l)).setCell (p := ⟨E.R, 5, none⟩) (.inl rfl) (.int .i64 c)).setCell (p := ⟨E.R, 0, none⟩) (.inl rfl)
      (.slice (some ⟨E.G, p * 4 + (E.n - p - 1) * 4, none⟩) (E.n - p - (E.n - p - 1)) (E.cap - p - (E.n - p - 1)))).drew
  have hr := heap_set (i := 0) (heap_set (i := 5) (heap_set (i := 4) (heap_set (i := 3) h.rd (.int .i64 x)) (.int .i64 l)) (.int .i64 c)) (.slice (some ⟨E.G, p * 4 + (E.n - p - 1) * 4, none⟩) (E.n - p - (E.n - p - 1)) (E.cap - p - (E.n - p - 1)))
  refine ⟨⟨h.env.kept k, ?_, hx⟩, (Kept.of_below b).trans k⟩
  refine Eq.trans hr ?_
  rw [show p * 4 + (E.n - p - 1) * 4 = (E.n - 1) * 4 by omega, show E.n - p - (E.n - p - 1) = E.n - (E.n - 1) by omega, show E.cap - p - (E.n - p - 1) = E.cap - (E.n - 1) by omega]
  rfl
theorem fails_bad (E : Env) (d : Int) (w : World) (x l c : Int) (h : Rd w E (.bad x l c) d) : Goes w E (.bad x l c) d
    (w.setCell ⟨E.R, 0, none⟩ (.slice (some ⟨E.G, (E.n - 1) * 4 + (E.n - (E.n - 1) - 1) * 4, none⟩) (E.n - (E.n - 1) - (E.n - (E.n - 1) - 1)) (E.cap - (E.n - 1) - (E.n - (E.n - 1) - 1)))).drew := by
  have hp := h.env.wf.pos
  have hcap := h.env.fit
  have k := ((Kept.refl E.R w).setCell (p := ⟨E.R, 0, none⟩) (.inl rfl) (.slice (some ⟨E.G, (E.n - 1) * 4 + (E.n - (E.n - 1) - 1) * 4, none⟩) (E.n - (E.n - 1) - (E.n - (E.n - 1) - 1)) (E.cap - (E.n - 1) - (E.n - (E.n - 1) - 1)))).drew
  refine ⟨⟨h.env.kept k, ?_, h.fits⟩, k⟩
  refine Eq.trans (heap_set h.rd _) ?_
  unfold Env.n at *
  rw [show (E.ts.length - 1) * 4 + (E.ts.length - (E.ts.length - 1) - 1) * 4 = (E.ts.length - 1) * 4 by omega, show E.ts.length - (E.ts.length - 1) - (E.ts.length - (E.ts.length - 1) - 1) = E.ts.length - (E.ts.length - 1) by omega, show E.cap - (E.ts.length - 1) - (E.ts.length - (E.ts.length - 1) - 1) = E.cap - (E.ts.length - 1) by omega]
  rfl

set_option maxHeartbeats 1000000 in
set_option maxRecDepth 100000 in
theorem fail_any (E : Env) (s : RS) (d : Int) (w : World) (x : Int) (hx : x ≠ 0) (h : Rd w E s d) :
    Calls Tryz.prog 60 #[.pointer (some ⟨E.R, 0, none⟩), .int .i64 x] w fun e w' => e = .returned (.tuple #[]) ∧ Goes w E (s.fails E x) d w' := by
  have hp := h.posLt
  have hcap := h.env.fit
  unfold maxLen at hcap
  cases s with
  | ok p =>
    have hnext := next_reads E _ d w h
    have HN := Lib.hid hnext
    clear hnext
    obtain ⟨c0, -, -, c3, -, -⟩ := h.cells
    have hg := heap_lt h.rd
    have HH := Lib.hid h
    clear h
    simp only [RS.pos, RS.e] at c0 c3 hp
    have q1 : ((0 : Int) == 0) = true := rfl
    go_enter Tryz.func60, Tryz.ntmps60
    go_wp2_with fail
    refine HN.out.mono ?_
    rintro e w1 ⟨rfl, b1⟩
    have h1 := HH.out.below b1
    have hfs : RS.fails E x (.ok p) = .bad x (tk E.ts p).spot.1 (tk E.ts p).spot.2 := rfl
    obtain ⟨c0', -, -, c3', c4', c5'⟩ := h1.cells
    have f0 := h1.free 0
    have f3 := h1.free 3
    have f4 := h1.free 4
    have f5 := h1.free 5
    have H1 := Lib.hid h1
    clear h1
    simp only [RS.pos, RS.e, RS.l, RS.c, Env.tok] at c0' c3' c4' c5' ⊢
    generalize tk E.ts p = t at *
    obtain ⟨kd, tx, l, c⟩ := t
    have hf2 := tokf2 kd tx l c
    have HF := Lib.hid hfs
    clear hfs
    have HX := Lib.hid hx
    have B1 := Lib.hid b1
    clear hx b1
    go_wp2
    go_region
    go_wp2
    go_end0
    exact ⟨rfl, by rw [HF.out]; exact fails_ok E p d w w1 x l c HX.out H1.out B1.out HH.out⟩
  | bad x0 l0 y0 =>
    obtain ⟨c0, -, -, c3, -, -⟩ := h.cells
    have f0 := h.free 0
    have hg := heap_lt h.rd
    have hx0 : x0 ≠ 0 := h.fits
    have q1 : (x0 == 0) = false := by simpa using hx0
    have HH := Lib.hid h
    clear h hx0 hx
    simp only [RS.pos, RS.e] at c0 c3 hp
    go_enter Tryz.func60, Tryz.ntmps60
    go_wp2
    go_region
    go_wp2
    go_end0
    exact ⟨rfl, fails_bad E d w x0 l0 y0 HH.out⟩

end Go.Proofs.YtmhpopkbmnhkkaaGreatDoor

/- Layer 2 (parse): a reader skips, marks, reads names, numbers, one of some words. -/
namespace Go.Proofs.YtmhpopkbmnhkkaaGreatDoor
open Go.RowKit Go.Lib

theorem tok_bad {E : Env} {w : World} {x l c d : Int} (h : Rd w E (.bad x l c) d) : (E.tok (.bad x l c)).kind = 0 ∧ (E.tok (.bad x l c)).text = ⟨#[]⟩ := by
  have hp := h.env.wf.pos
  have hl : E.n - 1 < E.ts.length := by unfold Env.n; omega
  have h0 : (tk E.ts (E.n - 1)).kind = 0 := (h.env.wf.last _ hl).2 (by unfold Env.n; omega)
  exact ⟨h0, (h.env.wf.all _ (tk_mem hl)).none h0⟩
theorem tok_ok {E : Env} {w : World} {p : Nat} {d : Int} (h : Rd w E (.ok p) d) (hk : (tk E.ts p).kind ≠ 0) : p + 1 < E.n := by
  have hp : p < E.n := h.fits
  have := h.env.wf.last p hp
  unfold Env.n at *
  rcases Nat.lt_or_ge (p + 1) E.ts.length with h1 | h1
  · exact h1
  · exact absurd (this.2 (by omega)) hk
theorem tok_text {E : Env} {w : World} {p : Nat} {d : Int} (h : Rd w E (.ok p) d) (hk : (tk E.ts p).text ≠ ⟨#[]⟩) : p + 1 < E.n :=
  tok_ok h fun h0 => hk ((h.env.wf.all _ (tk_mem h.fits)).none h0)
/-- The next token reads so, or it doesn't. -/
theorem sees_or {E : Env} {w : World} {s : RS} {d : Int} (h : Rd w E s d) (tx : ByteArray) (hne : tx ≠ ⟨#[]⟩) : (∃ p, s = .ok p ∧ p + 1 < E.n ∧ (tk E.ts p).text = tx) ∨ (E.tok s).text ≠ tx := by
  by_cases ht : (E.tok s).text = tx
  · cases s with
    | ok p => exact .inl ⟨p, rfl, tok_text h (by have : (tk E.ts p).text = tx := ht; rw [this]; exact hne), ht⟩
    | bad x l c => exact absurd ((tok_bad h).2.symm.trans ht) (fun e => hne e.symm)
  · exact .inr ht

theorem str_ne {a b : ByteArray} (h : a ≠ b) : (a.toList == b.toList) = false := (Lib.bytes_beq_false_iff a b).2 h
theorem str_eq {a b : ByteArray} (h : a = b) : (a.toList == b.toList) = true := (Lib.bytes_beq_iff a b).2 h

set_option maxHeartbeats 1000000 in
set_option maxRecDepth 100000 in
theorem skip_yes (E : Env) (p : Nat) (d : Int) (w : World) (tx : ByteArray) (h : Rd w E (.ok p) d) (hp : p + 1 < E.n) (ht : (tk E.ts p).text = tx) :
    Calls Tryz.prog 80 #[.pointer (some ⟨E.R, 0, none⟩), .string tx] w fun e w' => e = .returned (.bool true) ∧ Goes w E (.ok (p + 1)) d w' := by
  have hnext := next_reads E _ d w h
  have HN := Lib.hid hnext
  have HP := Lib.hid hp
  have hq : Hid (∀ w1, Below w.heap.size w w1 → Calls Tryz.prog 114 #[.pointer (some ⟨E.R, 0, none⟩)] w1 fun e w' => e = .returned (.tuple #[]) ∧ Goes w1 E (.ok (p + 1)) d w') := fun w1 b1 => pass_on E p d w1 (h.below b1) hp
  clear hnext hp h
  go_enter Tryz.func80, Tryz.ntmps80
  go_wp2_with fail
  refine HN.out.mono ?_
  rintro e w1 ⟨rfl, b1⟩
  simp only [Env.tok, RS.pos]
  have he := str_eq ht
  generalize tk E.ts p = t at *
  obtain ⟨k, x, l, c⟩ := t
  simp only [] at ht he
  subst ht
  have hf1 := tokf1 k x l c
  have B1 := Lib.hid b1
  clear b1
  go_wp2_with fail
  refine (hq.out w1 B1.out).mono ?_
  rintro e w2 ⟨rfl, g⟩
  go_wp2
  go_ret
  exact ⟨rfl, g.rd, (Kept.of_below B1.out).trans g.kept⟩

set_option maxHeartbeats 1000000 in
set_option maxRecDepth 100000 in
theorem skip_no (E : Env) (s : RS) (d : Int) (w : World) (tx : ByteArray) (h : Rd w E s d) (ht : (E.tok s).text ≠ tx) :
    Calls Tryz.prog 80 #[.pointer (some ⟨E.R, 0, none⟩), .string tx] w fun e w' => e = .returned (.bool false) ∧ Below w.heap.size w w' := by
  have hnext := next_reads E _ d w h
  have HN := Lib.hid hnext
  clear hnext
  go_enter Tryz.func80, Tryz.ntmps80
  go_wp2_with fail
  refine HN.out.mono ?_
  rintro e w1 ⟨rfl, b1⟩
  have he := str_ne ht
  generalize E.tok s = t at *
  obtain ⟨k, x, l, c⟩ := t
  simp only [] at he
  have hf1 := tokf1 k x l c
  have B1 := Lib.hid b1
  clear b1 ht
  go_wp2
  go_ret
  exact ⟨rfl, B1.out⟩

theorem goes_below {E : Env} {s : RS} {d : Int} {w w' : World} (h : Rd w E s d) (b : Below w.heap.size w w') : Goes w E s d w' := ⟨h.below b, .of_below b⟩
theorem Goes.trans {E : Env} {s s' : RS} {d d' : Int} {w w1 w2 : World} (h : Goes w E s d w1) (k : Goes w1 E s' d' w2) : Goes w E s' d' w2 := ⟨k.rd, h.kept.trans k.kept⟩
theorem Goes.of_below {E : Env} {s : RS} {d : Int} {w w1 w2 : World} (b : Below w.heap.size w w1) (k : Goes w1 E s d w2) : Goes w E s d w2 := ⟨k.rd, (Kept.of_below b).trans k.kept⟩
theorem Goes.below {E : Env} {s : RS} {d : Int} {w w1 w2 : World} (k : Goes w E s d w1) (b : Below w1.heap.size w1 w2) : Goes w E s d w2 := ⟨k.rd.below b, k.kept.trans (.of_below b)⟩

def MarkEnds (E : Env) (s : RS) (d : Int) (tx : ByteArray) (w : World) (e : Ending) (w' : World) : Prop := e = .returned (.tuple #[]) ∧ ∃ s', Res (pMark E.ts tx) s () s' ∧ Goes w E s' d w'

set_option maxHeartbeats 1000000 in
set_option maxRecDepth 100000 in
theorem mark_any (E : Env) (s : RS) (d : Int) (w : World) (tx : ByteArray) (hne : tx ≠ ⟨#[]⟩) (h : Rd w E s d) :
    Calls Tryz.prog 66 #[.pointer (some ⟨E.R, 0, none⟩), .string tx] w (MarkEnds E s d tx w) := by
  rcases sees_or h tx hne with ⟨p, rfl, hp, ht⟩ | ht
  · have hs := skip_yes E p d w tx h hp ht
    have HS := Lib.hid hs
    have hr : Hid (Res (pMark E.ts tx) (.ok p) () (.ok (p + 1))) := Res.of_ok (by simp [pMark, ht])
    clear hs h hp ht hne
    go_enter Tryz.func66, Tryz.ntmps66
    go_wp2_with fail
    refine HS.out.mono ?_
    rintro e w1 ⟨rfl, g⟩
    go_wp2
    go_end0
    exact ⟨rfl, _, hr.out, g⟩
  · have hs := skip_no E s d w tx h ht
    have HS := Lib.hid hs
    have hq : Hid (∀ w1, Below w.heap.size w w1 → _) := fun w1 b1 => fail_any E s d w1 5 (by decide) (h.below b1)
    have hr : Hid (Res (pMark E.ts tx) s () (s.fails E 5)) := by
      cases s with
      | ok p => exact (Res.fails E 5 (.ok p) ()).congr (fun q hq => by cases hq; have : (tk E.ts p).text ≠ tx := ht; simp [pMark, this])
      | bad x l c => rfl
    clear hs h ht hne
    go_enter Tryz.func66, Tryz.ntmps66
    go_wp2_with fail
    refine HS.out.mono ?_
    rintro e w1 ⟨rfl, b1⟩
    have B1 := Lib.hid b1
    clear b1
    go_wp2_with fail
    refine (hq.out w1 B1.out).mono ?_
    rintro e w2 ⟨rfl, g⟩
    go_wp2
    go_end0
    exact ⟨rfl, _, hr.out, g.of_below B1.out⟩
end Go.Proofs.YtmhpopkbmnhkkaaGreatDoor

/- Layer 2 (parse): a reader reads names, numbers, one of some words. -/
namespace Go.Proofs.YtmhpopkbmnhkkaaGreatDoor
open Go.RowKit Go.Lib

def NameEnds (E : Env) (s : RS) (d : Int) (w : World) (e : Ending) (w' : World) : Prop := ∃ x s', e = .returned (.string x) ∧ Res (pName E.ts) s x s' ∧ Goes w E s' d w'

set_option maxHeartbeats 1000000 in
set_option maxRecDepth 100000 in
theorem name_any (E : Env) (s : RS) (d : Int) (w : World) (h : Rd w E s d) :
    Calls Tryz.prog 64 #[.pointer (some ⟨E.R, 0, none⟩)] w (NameEnds E s d w) := by
  have hnext := next_reads E _ d w h
  have HN := Lib.hid hnext
  clear hnext
  by_cases hk : (E.tok s).kind = 1
  · cases s with
    | bad x l c => exact absurd ((tok_bad h).1.symm.trans hk) (by decide)
    | ok p =>
      have hk' : (tk E.ts p).kind = 1 := hk
      have hp := tok_ok h (by omega)
      have hq : Hid (∀ w1, Below w.heap.size w w1 → Calls Tryz.prog 114 #[.pointer (some ⟨E.R, 0, none⟩)] w1 fun e w' => e = .returned (.tuple #[]) ∧ Goes w1 E (.ok (p + 1)) d w') := fun w1 b1 => pass_on E p d w1 (h.below b1) hp
      have hr : Hid (Res (pName E.ts) (.ok p) (tk E.ts p).text (.ok (p + 1))) := Res.of_ok (by simp [pName, hk'])
      have hR : E.R < w.heap.size := h.lt
      clear h hp hk
      simp only [Env.tok, RS.pos] at HN
      generalize tk E.ts p = t at *
      obtain ⟨k, x, l, c⟩ := t
      simp only [] at hk'
      subst hk'
      go_enter Tryz.func64, Tryz.ntmps64
      go_wp2_with fail
      refine HN.out.mono ?_
      rintro e w1 ⟨rfl, b1⟩
      have B1 := Lib.hid b1
      have hR1 : E.R < w1.heap.size := Nat.lt_of_lt_of_le hR b1.size
      clear b1
      go_wp2_with fail
      refine (hq.out _ (by repeat (first | (with_reducible exact Below.refl _ _) | (with_reducible exact B1.out) | (with_reducible assumption) | ((with_reducible refine Below.setCell ?_ ?_ _); rotate_left; focus (simp; done)) | ((with_reducible refine Below.alloc ?_ ?_ _); rotate_left; focus (first | exact Nat.le_refl _ | exact B1.out.size | (simp; done) | (have := B1.out.size; simp; omega))) | (with_reducible refine Below.drew ?_)))).mono ?_
      rintro e w2 ⟨rfl, g⟩
      have hT := g.kept.heap (k := w1.heap.size) (by omega) (heap_alloc_new w1 _)
      have t1 := cell_blk (i := 1) hT
      simp at t1
      have GG := Lib.hid g
      clear hT g
      go_wp2
      go_ret
      exact ⟨_, _, rfl, hr.out, GG.out.of_below (by repeat (first | (with_reducible exact Below.refl _ _) | (with_reducible exact B1.out) | (with_reducible assumption) | ((with_reducible refine Below.setCell ?_ ?_ _); rotate_left; focus (simp; done)) | ((with_reducible refine Below.alloc ?_ ?_ _); rotate_left; focus (first | exact Nat.le_refl _ | exact B1.out.size | (simp; done) | (have := B1.out.size; simp; omega))) | (with_reducible refine Below.drew ?_)))⟩
  · have hq : Hid (∀ w1, Below w.heap.size w w1 → _) := fun w1 b1 => fail_any E s d w1 5 (by decide) (h.below b1)
    have hr : Hid (Res (pName E.ts) s ⟨#[]⟩ (s.fails E 5)) := by
      cases s with
      | ok p => exact (Res.fails E 5 (.ok p) _).congr (fun q hq => by cases hq; have : (tk E.ts p).kind ≠ 1 := hk; simp [pName, this])
      | bad x l c => rfl
    clear h
    generalize E.tok s = t at *
    obtain ⟨k, x, l, c⟩ := t
    simp only [] at hk
    have q1 : ((k : Int) != 1) = true := by simp; omega
    clear hk
    go_enter Tryz.func64, Tryz.ntmps64
    go_wp2_with fail
    refine HN.out.mono ?_
    rintro e w1 ⟨rfl, b1⟩
    have B1 := Lib.hid b1
    clear b1
    go_wp2_with fail
    refine (hq.out _ (by repeat (first | (with_reducible exact Below.refl _ _) | (with_reducible exact B1.out) | (with_reducible assumption) | ((with_reducible refine Below.setCell ?_ ?_ _); rotate_left; focus (simp; done)) | ((with_reducible refine Below.alloc ?_ ?_ _); rotate_left; focus (first | exact Nat.le_refl _ | exact B1.out.size | (simp; done) | (have := B1.out.size; simp; omega))) | (with_reducible refine Below.drew ?_)))).mono ?_
    rintro e w2 ⟨rfl, g⟩
    have GG := Lib.hid g
    clear g
    go_wp2
    go_ret
    exact ⟨_, _, rfl, hr.out, GG.out.of_below (by repeat (first | (with_reducible exact Below.refl _ _) | (with_reducible exact B1.out) | (with_reducible assumption) | ((with_reducible refine Below.setCell ?_ ?_ _); rotate_left; focus (simp; done)) | ((with_reducible refine Below.alloc ?_ ?_ _); rotate_left; focus (first | exact Nat.le_refl _ | exact B1.out.size | (simp; done) | (have := B1.out.size; simp; omega))) | (with_reducible refine Below.drew ?_)))⟩

theorem parse_digits : ∀ (l : List UInt8) (acc : Nat), (∀ b ∈ l, 48 ≤ b.toNat ∧ b.toNat ≤ 57) → l.foldl (fun v (b : UInt8) => 10 * v + (b.toNat - 48)) acc ≤ 99999 → acc ≤ l.foldl (fun v (b : UInt8) => 10 * v + (b.toNat - 48)) acc ∧ Lib.parseUint10 acc l = .ok (l.foldl (fun v (b : UInt8) => 10 * v + (b.toNat - 48)) acc)
  | [], acc, _, _ => ⟨Nat.le_refl _, rfl⟩
  | c :: r, acc, hd, hv => by
    have ih := parse_digits r (10 * acc + (c.toNat - 48)) (fun b hb => hd b (List.mem_cons_of_mem _ hb)) hv
    have hc := hd c List.mem_cons_self
    simp only [List.foldl_cons] at hv ⊢
    refine ⟨by omega, ?_⟩
    unfold Lib.parseUint10
    rw [if_pos hc, if_neg (by omega), if_neg (by omega), ← ih.2, Nat.mul_comm]
theorem atoi_digits (x : ByteArray) (hne : x ≠ ⟨#[]⟩) (hd : ∀ b ∈ x.data.toList, 48 ≤ b.toNat ∧ b.toNat ≤ 57) (hv : valOf x.data.toList ≤ 99999) : Lib.atoiAll x.data.toList = .ok (valOf x.data.toList : Int) := by
  have hp := (parse_digits x.data.toList 0 hd hv).2
  have hl : x.data.toList ≠ [] := fun e => hne (by cases x with | mk d => cases d with | mk l => simp at e; subst e; rfl)
  have hv' : (x.data.toList.foldl (fun v (b : UInt8) => 10 * v + (b.toNat - 48)) 0) ≤ 99999 := hv
  unfold valOf
  generalize (x.data.toList.foldl (fun v (b : UInt8) => 10 * v + (b.toNat - 48)) 0) = v at *
  generalize x.data.toList = l at *
  cases l with
  | nil => exact absurd rfl hl
  | cons c r =>
    have hc := hd c List.mem_cons_self
    unfold Lib.atoiAll Lib.parseMag
    simp only [show ¬ c.toNat = 43 by omega, show ¬ c.toNat = 45 by omega, or_self, if_false, reduceCtorEq, hp, false_and, not_false_eq_true, true_and]
    rw [if_neg (by omega)]

theorem atoi_num (x : ByteArray) (hne : x ≠ ⟨#[]⟩) (hd : ∀ b ∈ x.data.toList, 48 ≤ b.toNat ∧ b.toNat ≤ 57) (hv : valOf x.data.toList ≤ 99999) (hs : x.size ≤ 65536) (w : World) :
    Calls Tryz.prog 115 #[.string x] w fun e w' => e = .returned (.tuple #[.int .i64 (valOf x.data.toList), .nilIface]) ∧ Below w.heap.size w w' :=
  (Tryz.strconv_Atoi_ok x (by omega) _ (atoi_digits x hne hd hv) w).mono fun e w' ⟨he, hw⟩ => ⟨he, by
    rcases hw with rfl | ⟨t, rfl⟩
    · exact Below.refl _ _
    · exact Joins.below_bytesWorld _ _ _ _ (Nat.le_refl _)⟩
def AtoiEnds (w : World) (e : Ending) (w' : World) : Prop := ∃ v ev, e = .returned (.tuple #[.int .i64 v, ev]) ∧ Below w.heap.size w w'
theorem atoi_any (x : ByteArray) (hs : x.size ≤ 65536) (w : World) (h1 : ∃ te pe, w.cell? ⟨10, 0, none⟩ = some (.iface te pe)) (h2 : ∃ te pe, w.cell? ⟨11, 0, none⟩ = some (.iface te pe)) :
    Calls Tryz.prog 115 #[.string x] w (AtoiEnds w) := by
  obtain ⟨t1, p1, h1⟩ := h1
  obtain ⟨t2, p2, h2⟩ := h2
  cases hr : Lib.atoiAll x.data.toList with
  | ok v => exact (Tryz.strconv_Atoi_ok x (by omega) _ hr w).mono fun e w' ⟨he, hw⟩ => ⟨_, _, he, by
      rcases hw with rfl | ⟨t, rfl⟩
      · exact Below.refl _ _
      · exact Joins.below_bytesWorld _ _ _ _ (Nat.le_refl _)⟩
  | range => exact (Tryz.strconv_Atoi_range x (by omega) hr _ w h2 (.inr ⟨_, _, rfl⟩)).mono fun e w' ⟨N, he, _, _, hb⟩ => ⟨_, _, he, hb⟩
  | _ => exact (Tryz.strconv_Atoi_syntax x (by omega) hr _ w h1 (.inr ⟨_, _, rfl⟩)).mono fun e w' ⟨N, he, _, _, hb⟩ => ⟨_, _, he, hb⟩

def NumEnds (E : Env) (s : RS) (d : Int) (w : World) (e : Ending) (w' : World) : Prop := ∃ v s', e = .returned (.int .i64 v) ∧ Res (pNum E.ts) s v s' ∧ Goes w E s' d w'

set_option maxHeartbeats 1000000 in
set_option maxRecDepth 100000 in
theorem number_any (E : Env) (s : RS) (d : Int) (w : World) (h : Rd w E s d) :
    Calls Tryz.prog 65 #[.pointer (some ⟨E.R, 0, none⟩)] w (NumEnds E s d w) := by
  have hnext := next_reads E _ d w h
  have HN := Lib.hid hnext
  clear hnext
  have hsz := (h.env.wf.all _ (tk_mem h.posLt)).size
  by_cases hk : (E.tok s).kind = 2
  · cases s with
    | bad x l c => exact absurd ((tok_bad h).1.symm.trans hk) (by decide)
    | ok p =>
      have hk' : (tk E.ts p).kind = 2 := hk
      have hp := tok_ok h (by omega)
      have hq : Hid (∀ w1, Below w.heap.size w w1 → Calls Tryz.prog 114 #[.pointer (some ⟨E.R, 0, none⟩)] w1 fun e w' => e = .returned (.tuple #[]) ∧ Goes w1 E (.ok (p + 1)) d w') := fun w1 b1 => pass_on E p d w1 (h.below b1) hp
      have hr : Hid (Res (pNum E.ts) (.ok p) (valOf (tk E.ts p).text.data.toList : Int) (.ok (p + 1))) := Res.of_ok (by simp [pNum, hk'])
      have hR : E.R < w.heap.size := h.lt
      have hwt := h.env.wf.all _ (tk_mem (show p < E.ts.length from h.fits))
      have ha : Hid (∀ W, _) := fun W => atoi_num (tk E.ts p).text (hwt.some (by omega)) (hwt.num hk').1 (hwt.num hk').2 hsz W
      clear h hp hk hwt
      simp only [Env.tok, RS.pos] at HN hsz
      generalize tk E.ts p = t at *
      obtain ⟨k, x, l, c⟩ := t
      simp only [] at hk' ha hsz
      subst hk'
      generalize valOf x.data.toList = v at *
      go_enter Tryz.func65, Tryz.ntmps65
      go_wp2_with fail
      refine HN.out.mono ?_
      rintro e w1 ⟨rfl, b1⟩
      have B1 := Lib.hid b1
      have hR1 : E.R < w1.heap.size := Nat.lt_of_lt_of_le hR b1.size
      clear b1
      go_wp2_with fail
      refine (ha.out _).mono ?_
      rintro e w2 ⟨rfl, b2⟩
      have hT := (b2.block w1.heap.size (by simp)).trans (heap_alloc_new w1 _)
      have t0 := cell_blk (i := 0) hT
      simp at t0
      have B2 : Hid (Below w.heap.size w w2) := Below.trans (by repeat (first | (with_reducible exact Below.refl _ _) | (with_reducible exact B1.out) | (with_reducible assumption) | ((with_reducible refine Below.setCell ?_ ?_ _); rotate_left; focus (simp; done)) | ((with_reducible refine Below.alloc ?_ ?_ _); rotate_left; focus (first | exact Nat.le_refl _ | exact B1.out.size | (simp; done) | (have := B1.out.size; simp; omega))) | (with_reducible refine Below.drew ?_))) (b2.mono (by have := B1.out.size; simp; omega))
      clear hT b2
      go_wp2_with fail
      refine (hq.out _ (B2.out)).mono ?_
      rintro e w3 ⟨rfl, g⟩
      have GG := Lib.hid g
      clear g
      go_wp2
      go_ret
      exact ⟨_, _, rfl, hr.out, GG.out.of_below B2.out⟩
  · have hq : Hid (∀ w1, Below w.heap.size w w1 → _) := fun w1 b1 => fail_any E s d w1 5 (by decide) (h.below b1)
    have hr : Hid (Res (pNum E.ts) s 0 (s.fails E 5)) := by
      cases s with
      | ok p => exact (Res.fails E 5 (.ok p) _).congr (fun q hq => by cases hq; have : (tk E.ts p).kind ≠ 2 := hk; simp [pNum, this])
      | bad x l c => rfl
    have ha : Hid (∀ W, Below w.heap.size w W → _) := fun W b => atoi_any (E.tok s).text hsz W ((h.below b).env.syn.2) ((h.below b).env.rng.2)
    clear h
    generalize hx : E.tok s = t at *
    clear hx
    obtain ⟨k, x, l, c⟩ := t
    simp only [] at hk ha
    have q1 : ((k : Int) != 2) = true := by simp; omega
    clear hk hsz
    go_enter Tryz.func65, Tryz.ntmps65
    go_wp2_with fail
    refine HN.out.mono ?_
    rintro e w1 ⟨rfl, b1⟩
    have B1 := Lib.hid b1
    clear b1
    go_wp2_with fail
    refine (ha.out _ (by repeat (first | (with_reducible exact Below.refl _ _) | (with_reducible exact B1.out) | (with_reducible assumption) | ((with_reducible refine Below.setCell ?_ ?_ _); rotate_left; focus (simp; done)) | ((with_reducible refine Below.alloc ?_ ?_ _); rotate_left; focus (first | exact Nat.le_refl _ | exact B1.out.size | (simp; done) | (have := B1.out.size; simp; omega))) | (with_reducible refine Below.drew ?_)))).mono ?_
    rintro e w2 ⟨v, ev, rfl, b2⟩
    have hT := (b2.block w1.heap.size (by simp)).trans (heap_alloc_new w1 _)
    have t0 := cell_blk (i := 0) hT
    simp at t0
    have B2 : Hid (Below w.heap.size w w2) := Below.trans (by repeat (first | (with_reducible exact Below.refl _ _) | (with_reducible exact B1.out) | (with_reducible assumption) | ((with_reducible refine Below.setCell ?_ ?_ _); rotate_left; focus (simp; done)) | ((with_reducible refine Below.alloc ?_ ?_ _); rotate_left; focus (first | exact Nat.le_refl _ | exact B1.out.size | (simp; done) | (have := B1.out.size; simp; omega))) | (with_reducible refine Below.drew ?_))) (b2.mono (by have := B1.out.size; simp; omega))
    clear hT b2
    go_wp2_with fail
    refine (hq.out _ B2.out).mono ?_
    rintro e w3 ⟨rfl, g⟩
    have GG := Lib.hid g
    clear g
    go_wp2
    go_ret
    exact ⟨_, _, rfl, hr.out, GG.out.of_below B2.out⟩
end Go.Proofs.YtmhpopkbmnhkkaaGreatDoor

/- Layer 2 (parse): a reader reads one of some words. -/
namespace Go.Proofs.YtmhpopkbmnhkkaaGreatDoor
open Go.RowKit Go.Lib

theorem findW_idx (x : ByteArray) : ∀ (ws : List ByteArray) (i : Nat), Lib.idxFromS ws x i = (match findW ws x i with | some k => (k : Int) | none => -1)
  | [], _ => rfl
  | w :: l, i => by
    unfold Lib.idxFromS findW
    by_cases h : w = x
    · rw [if_pos h, if_pos h]
    · rw [if_neg h, if_neg h]; exact findW_idx x l (i + 1)
theorem findW_lt (x : ByteArray) : ∀ (ws : List ByteArray) (i k : Nat), findW ws x i = some k → i ≤ k ∧ k < i + ws.length ∧ x ∈ ws
  | [], _, _, h => by simp [findW] at h
  | w :: l, i, k, h => by
    unfold findW at h
    by_cases he : w = x
    · rw [if_pos he] at h; cases h; exact ⟨Nat.le_refl _, by simp, by simp [he]⟩
    · rw [if_neg he] at h
      have := findW_lt x l (i + 1) k h
      exact ⟨by omega, by simp; omega, by simp [this.2.2]⟩

/-- Words in memory. -/
def WordsAt (w : World) (R : Nat) (v : Value) (ws : List ByteArray) : Prop :=
  ∃ b c, v = .slice (some ⟨b, 0, none⟩) ws.length c ∧ b ≠ R ∧ ∀ j, j < ws.length → w.cell? ⟨b, j, none⟩ = some (.string (ws.getD j ByteArray.empty))
theorem WordsAt.kept {w w' : World} {R : Nat} {v : Value} {ws : List ByteArray} (h : WordsAt w R v ws) (k : Kept R w w') : WordsAt w' R v ws := by
  obtain ⟨b, c, hv, hb, hc⟩ := h
  exact ⟨b, c, hv, hb, fun j hj => k.cell hb (hc j hj)⟩
theorem words_new (w : World) (R : Nat) (ws : List ByteArray) (t : TypeId) (hR : R < w.heap.size) : WordsAt (w.alloc (.cells (ws.map Value.string).toArray t)) R (.slice (some ⟨w.heap.size, 0, none⟩) ws.length ws.length) ws := by
  refine ⟨_, _, rfl, by omega, fun j hj => ?_⟩
  rw [cell_blk (heap_alloc_new w _)]
  simp [hj]

/-- Words of which none is empty, few enough for a byte. -/
structure Wordy (ws : List ByteArray) : Prop where
  pos : 0 < ws.length
  few : ws.length ≤ 200
  some : ∀ x ∈ ws, x ≠ ⟨#[]⟩

def OneEnds (E : Env) (s : RS) (d : Int) (ws : List ByteArray) (w : World) (e : Ending) (w' : World) : Prop := ∃ (k : Nat) (s' : RS), e = .returned (.int .u8 k) ∧ Res (pOne E.ts ws) s k s' ∧ k < ws.length ∧ Goes w E s' d w'

set_option maxHeartbeats 1000000 in
set_option maxRecDepth 100000 in
theorem oneOf_any (E : Env) (s : RS) (d : Int) (w : World) (v : Value) (ws : List ByteArray) (hw : Wordy ws) (hv : WordsAt w E.R v ws) (h : Rd w E s d) :
    Calls Tryz.prog 63 #[.pointer (some ⟨E.R, 0, none⟩), v] w (OneEnds E s d ws w) := by
  have hnext := next_reads E _ d w h
  have HN := Lib.hid hnext
  clear hnext
  obtain ⟨b, c, rfl, hb, hc⟩ := hv
  have hi : Hid (∀ w1, Below w.heap.size w w1 → Calls Tryz.prog 113 #[.slice (some ⟨b, 0, none⟩) ws.length c, .string (E.tok s).text] w1 fun e w' => e = .returned (.int .i64 (match findW ws (E.tok s).text 0 with | some k => (k : Int) | none => -1)) ∧ w' = w1) := fun w1 b1 => by
    have := Tryz.slices_Index_string b 0 ws.length c ws (E.tok s).text w1 (Nat.le_refl _) (by have := hw.few; omega) (fun j hj => by rw [Nat.zero_add]; exact cell_later b1 (hc j hj))
    rw [List.take_length, Lib.idxOfS, findW_idx] at this
    exact this
  have hfew := hw.few
  have hpos := hw.pos
  cases hf : findW ws (E.tok s).text 0 with
  | some k =>
    have hlt := findW_lt _ _ _ _ hf
    have hne := hw.some _ hlt.2.2
    rcases sees_or h (E.tok s).text hne with ⟨p, rfl, hp, -⟩ | ht
    · have hq : Hid (∀ w1, Below w.heap.size w w1 → Calls Tryz.prog 114 #[.pointer (some ⟨E.R, 0, none⟩)] w1 fun e w' => e = .returned (.tuple #[]) ∧ Goes w1 E (.ok (p + 1)) d w') := fun w1 b1 => pass_on E p d w1 (h.below b1) hp
      have hr : Hid (Res (pOne E.ts ws) (.ok p) k (.ok (p + 1))) := Res.of_ok (by have hf' : findW ws (tk E.ts p).text 0 = some k := hf; simp [pOne, hf'])
      have hk : k < ws.length := by omega
      simp only [hf] at hi
      have HI := Lib.hid hi
      have HP := Lib.hid (And.intro hpos hfew)
      have k0 : (0 : Int) ≤ (k : Int) := by omega
      have k1 : (k : Int) < 256 := by omega
      clear h hp hf hlt hne hb hc hw hi hpos hfew
      generalize E.tok (.ok p) = t at *
      obtain ⟨kd, x, l, y⟩ := t
      have hf1 := tokf1 kd x l y
      simp only [] at HI
      go_enter Tryz.func63, Tryz.ntmps63
      go_wp2_with fail
      refine HN.out.mono ?_
      rintro e w1 ⟨rfl, b1⟩
      have B1 := Lib.hid b1
      clear b1
      go_wp2_with fail
      refine (HI.out _ B1.out).mono ?_
      rintro e w2 ⟨rfl, rfl⟩
      go_wp2_with fail
      refine (hq.out _ B1.out).mono ?_
      rintro e w3 ⟨rfl, g⟩
      have GG := Lib.hid g
      clear g
      go_wp2
      go_ret
      exact ⟨k, _, rfl, hr.out, hk, GG.out.of_below B1.out⟩
    · exact absurd rfl ht
  | none =>
    have hq : Hid (∀ w1, Below w.heap.size w w1 → _) := fun w1 b1 => fail_any E s d w1 5 (by decide) (h.below b1)
    have hr : Hid (Res (pOne E.ts ws) s 0 (s.fails E 5)) := by
      cases s with
      | ok p => exact (Res.fails E 5 (.ok p) _).congr (fun q hq => by cases hq; have hf' : findW ws (tk E.ts p).text 0 = none := hf; simp [pOne, hf'])
      | bad x l c => rfl
    simp only [hf] at hi
    have HI := Lib.hid hi
    have HP := Lib.hid hpos
    clear h hf hb hc hw hi hpos hfew
    generalize E.tok s = t at *
    obtain ⟨kd, x, l, y⟩ := t
    have hf1 := tokf1 kd x l y
    simp only [] at HI
    go_enter Tryz.func63, Tryz.ntmps63
    go_wp2_with fail
    refine HN.out.mono ?_
    rintro e w1 ⟨rfl, b1⟩
    have B1 := Lib.hid b1
    clear b1
    go_wp2_with fail
    refine (HI.out _ B1.out).mono ?_
    rintro e w2 ⟨rfl, rfl⟩
    go_wp2_with fail
    refine (hq.out _ B1.out).mono ?_
    rintro e w3 ⟨rfl, g⟩
    have GG := Lib.hid g
    clear g
    go_wp2
    go_ret
    exact ⟨0, _, rfl, hr.out, HP.out, GG.out.of_below B1.out⟩

theorem wordy_sides : Wordy sidesW := ⟨by decide, by decide, by decide⟩
theorem wordy_zones : Wordy zonesW := ⟨by decide, by decide, by decide⟩
theorem wordy_kinds : Wordy kindsW := ⟨by decide, by decide, by decide⟩
theorem wordy_selKinds : Wordy selKindsW := ⟨by decide, by decide, by decide⟩
theorem wordy_events : Wordy eventsW := ⟨by decide, by decide, by decide⟩
theorem wordy_modes : Wordy modesW := ⟨by decide, by decide, by decide⟩
theorem wordy_ops : Wordy opsW := ⟨by decide, by decide, by decide⟩

theorem words_sides (w : World) (R b : Nat) (hb : w.heap.size = b) (hR : R < b) : WordsAt (w.alloc (.cells #[.string ⟨#[109, 105, 110, 101]⟩, .string ⟨#[116, 104, 101, 105, 114, 115]⟩, .string ⟨#[97, 110, 121]⟩, .string ⟨#[115, 101, 108, 102]⟩] 9)) R (.slice (some ⟨b, 0, none⟩) 4 4) sidesW := by subst hb; exact words_new w R sidesW 9 hR
theorem words_zones (w : World) (R b : Nat) (hb : w.heap.size = b) (hR : R < b) : WordsAt (w.alloc (.cells #[.string ⟨#[100, 101, 99, 107]⟩, .string ⟨#[104, 97, 110, 100]⟩, .string ⟨#[114, 111, 119]⟩, .string ⟨#[98, 97, 99, 107]⟩, .string ⟨#[103, 114, 97, 118, 101]⟩, .string ⟨#[101, 120, 105, 108, 101]⟩] 9)) R (.slice (some ⟨b, 0, none⟩) 6 6) zonesW := by subst hb; exact words_new w R zonesW 9 hR
theorem words_kinds (w : World) (R b : Nat) (hb : w.heap.size = b) (hR : R < b) : WordsAt (w.alloc (.cells #[.string ⟨#[117, 110, 105, 116]⟩, .string ⟨#[115, 112, 101, 108, 108]⟩, .string ⟨#[113, 117, 105, 99, 107]⟩, .string ⟨#[116, 114, 97, 112]⟩, .string ⟨#[99, 111, 117, 110, 116, 101, 114]⟩] 9)) R (.slice (some ⟨b, 0, none⟩) 5 5) kindsW := by subst hb; exact words_new w R kindsW 9 hR
theorem words_events (w : World) (R b : Nat) (hb : w.heap.size = b) (hR : R < b) : WordsAt (w.alloc (.cells #[.string ⟨#[116, 114, 121]⟩, .string ⟨#[115, 117, 109, 109, 111, 110]⟩, .string ⟨#[97, 116, 116, 97, 99, 107]⟩, .string ⟨#[100, 101, 115, 116, 114, 111, 121]⟩, .string ⟨#[100, 97, 109, 97, 103, 101]⟩, .string ⟨#[108, 105, 110, 107]⟩, .string ⟨#[115, 116, 97, 110, 100, 98, 121]⟩, .string ⟨#[101, 110, 100]⟩] 9)) R (.slice (some ⟨b, 0, none⟩) 8 8) eventsW := by subst hb; exact words_new w R eventsW 9 hR
theorem words_modes (w : World) (R b : Nat) (hb : w.heap.size = b) (hR : R < b) : WordsAt (w.alloc (.cells #[.string ⟨#[112, 108, 97, 121]⟩, .string ⟨#[97, 99, 116]⟩, .string ⟨#[115, 119, 105, 102, 116]⟩, .string ⟨#[119, 104, 101, 110]⟩, .string ⟨#[105, 102]⟩, .string ⟨#[109, 117, 115, 116]⟩, .string ⟨#[97, 117, 114, 97]⟩] 9)) R (.slice (some ⟨b, 0, none⟩) 7 7) modesW := by subst hb; exact words_new w R modesW 9 hR
theorem words_ops (w : World) (R b : Nat) (hb : w.heap.size = b) (hR : R < b) : WordsAt (w.alloc (.cells #[.string ⟨#[43]⟩, .string ⟨#[45]⟩, .string ⟨#[42]⟩, .string ⟨#[60]⟩, .string ⟨#[61]⟩, .string ⟨#[97, 110, 100]⟩, .string ⟨#[111, 114]⟩, .string ⟨#[110, 111, 116]⟩] 9)) R (.slice (some ⟨b, 0, none⟩) 8 8) opsW := by subst hb; exact words_new w R opsW 9 hR
theorem words_needs (w : World) (R b : Nat) (hb : w.heap.size = b) (hR : R < b) : WordsAt (w.alloc (.cells #[.string ⟨#[110, 101, 101, 100, 115]⟩] 9)) R (.slice (some ⟨b, 0, none⟩) 1 1) [⟨#[110, 101, 101, 100, 115]⟩] := by subst hb; exact words_new w R [⟨#[110, 101, 101, 100, 115]⟩] 9 hR
theorem words_all (w : World) (R b : Nat) (hb : w.heap.size = b) (hR : R < b) : WordsAt (w.alloc (.cells #[.string ⟨#[97, 108, 108]⟩] 9)) R (.slice (some ⟨b, 0, none⟩) 1 1) [⟨#[97, 108, 108]⟩] := by subst hb; exact words_new w R [⟨#[97, 108, 108]⟩] 9 hR

set_option maxHeartbeats 1000000 in
set_option maxRecDepth 100000 in
theorem side_any (E : Env) (s : RS) (d : Int) (w : World) (h : Rd w E s d) :
    Calls Tryz.prog 81 #[.pointer (some ⟨E.R, 0, none⟩)] w (OneEnds E s d sidesW w) := by
  have hb : Below w.heap.size w (w.alloc (.cells (sidesW.map Value.string).toArray 9)) := (Below.refl _ _).alloc (Nat.le_refl _) _
  have ho := oneOf_any E s d _ _ sidesW wordy_sides (words_new w E.R sidesW 9 h.lt) (h.below hb)
  have HO := Lib.hid ho
  have HB := Lib.hid hb
  clear h ho hb
  go_enter Tryz.func81, Tryz.ntmps81
  go_wp2_with fail
  refine HO.out.mono ?_
  rintro e w1 ⟨k, s', rfl, hr, hk, g⟩
  have HR := Lib.hid (And.intro hr (And.intro hk g))
  clear hr hk g
  go_wp2
  go_ret
  exact ⟨k, s', rfl, HR.out.1, HR.out.2.1, HR.out.2.2.of_below HB.out⟩

theorem ret_num {k : IntKind} {a b : Int} (h : a = b) : Ending.returned (.int k a) = .returned (.int k b) := by rw [h]
def EventEnds (E : Env) (s : RS) (d : Int) (w : World) (e : Ending) (w' : World) : Prop := ∃ (k : Nat) (s' : RS), e = .returned (.int .u8 ((k + 1 : Nat) : Int)) ∧ Res (pOne E.ts eventsW) s k s' ∧ k < 8 ∧ Goes w E s' d w'
set_option maxHeartbeats 1000000 in
set_option maxRecDepth 100000 in
theorem event_any (E : Env) (s : RS) (d : Int) (w : World) (h : Rd w E s d) :
    Calls Tryz.prog 116 #[.pointer (some ⟨E.R, 0, none⟩)] w (EventEnds E s d w) := by
  have hb : Below w.heap.size w (w.alloc (.cells (eventsW.map Value.string).toArray 9)) := (Below.refl _ _).alloc (Nat.le_refl _) _
  have ho := oneOf_any E s d _ _ eventsW wordy_events (words_new w E.R eventsW 9 h.lt) (h.below hb)
  have HO := Lib.hid ho
  have HB := Lib.hid hb
  clear h ho hb
  go_enter Tryz.func116, Tryz.ntmps116
  go_wp2_with fail
  refine HO.out.mono ?_
  rintro e w1 ⟨k, s', rfl, hr, hk, g⟩
  have hk8 : k < 8 := hk
  have HR := Lib.hid (And.intro hr g)
  clear hr hk g
  have k1 : (k : Int) ≤ 7 := by omega
  have k0 : (0 : Int) ≤ (k : Int) := by omega
  go_wp2
  go_ret
  exact ⟨k, s', ret_num (by omega), HR.out.1, hk8, HR.out.2.of_below HB.out⟩

def ListEnds (R : Nat) (ws : List ByteArray) (w : World) (e : Ending) (w' : World) : Prop := ∃ v, e = .returned v ∧ WordsAt w' R v ws ∧ Below w.heap.size w w'
set_option maxRecDepth 100000 in
theorem kinds_any (R : Nat) (w : World) (hR : R < w.heap.size) : Calls Tryz.prog 31 #[] w (ListEnds R kindsW w) := by
  have ho := words_new w R kindsW 9 hR
  have HO := Lib.hid ho
  clear ho
  go_enter Tryz.func31, Tryz.ntmps31
  go_wp2
  go_ret
  exact ⟨_, rfl, HO.out, (Below.refl _ _).alloc (Nat.le_refl _) _⟩
set_option maxRecDepth 100000 in
theorem modes_any (R : Nat) (w : World) (hR : R < w.heap.size) : Calls Tryz.prog 68 #[] w (ListEnds R modesW w) := by
  have ho := words_new w R modesW 9 hR
  have HO := Lib.hid ho
  clear ho
  go_enter Tryz.func68, Tryz.ntmps68
  go_wp2
  go_ret
  exact ⟨_, rfl, HO.out, (Below.refl _ _).alloc (Nat.le_refl _) _⟩
end Go.Proofs.YtmhpopkbmnhkkaaGreatDoor

/- Layer 2 (parse): the table of steps: what a look-up in it tells. -/
namespace Go.Proofs.YtmhpopkbmnhkkaaGreatDoor
open Go.RowKit Go.Lib

/-- What the table tells of a word. -/
def stepV (A : Nat → Nat) (d : Nat) : Value := match d with
  | 0 => amountV (A 0) | 1 => amountV (A 1) | 2 => amountV (A 2) | 3 => amountV (A 3) | 9 => amountV (A 4)
  | 4 => piecesV (A 5) | 5 => piecesV (A 6) | 6 => piecesV (A 7) | 8 => piecesV (A 8) | 7 => boostV | _ => negateV
theorem now_eq (a b : ByteArray) : Instr.sameNow .string (.string a) (.string b) = some (a == b) := rfl
theorem beq_ne {a b : ByteArray} (h : a ≠ b) : (a == b) = false := by
  cases hb : a == b with
  | true => exact absurd ((MapKept.bytes_beq a b).1 hb) h
  | false => rfl
theorem find_none (tx : ByteArray) : ∀ (l : List MapEntry) (i : Nat), (∀ e ∈ l, ∃ s, e.key = .string s ∧ s ≠ tx) → Instr.findNow .string (.string tx) l i = some none
  | [], _, _ => rfl
  | e :: es, i, h => by
    obtain ⟨s, hs, hne⟩ := h e List.mem_cons_self
    unfold Instr.findNow
    rw [hs, now_eq, beq_ne (Ne.symm hne)]
    exact find_none tx es (i + 1) fun x hx => h x (List.mem_cons_of_mem _ hx)

theorem findW_mem {ws : List ByteArray} {t : ByteArray} : ∀ {i : Nat}, findW ws t i = none → ∀ x ∈ ws, x ≠ t := by
  induction ws with
  | nil => intro i _ x hx; simp at hx
  | cons w l ih =>
    intro i h x hx
    unfold findW at h
    by_cases he : w = t
    · rw [if_pos he] at h; cases h
    · rw [if_neg he] at h
      rcases List.mem_cons.1 hx with rfl | hx
      · exact he
      · exact ih h x hx
theorem findW_get : ∀ (ws : List ByteArray) (t : ByteArray) (i k : Nat), findW ws t i = some k → ws[k - i]? = some t ∧ i ≤ k
  | [], _, _, _, h => by simp [findW] at h
  | w :: l, t, i, k, h => by
    unfold findW at h
    by_cases he : w = t
    · rw [if_pos he] at h; cases h; simp [he]
    · rw [if_neg he] at h
      have := findW_get l t (i + 1) k h
      refine ⟨?_, by omega⟩
      rw [show k - i = (k - (i + 1)) + 1 by omega]
      simpa using this.1

theorem look_run (W : World) (E : Env) (h : W.heap[E.M]? = some (.map (entriesOf E.A).toArray 11)) (tx : ByteArray) :
    (Instr.lookup 98 (.map (some E.M)) (.string tx) false).run Tryz.prog W = .ok (match findW stepsW tx 0 with | some d => stepV E.A d | none => .nilFunc) W := by
  have ht : Tryz.prog.underlying 98 = some (.map 9 142) := Tryz.underlying98
  have hs : Tryz.prog.underlying 9 = some .string := Tryz.underlying9
  have hz : (zeroValue 142).run Tryz.prog W = .ok .nilFunc W := by kernel_rfl
  have hc := MapKept.run_checkKey (w := W) hs (k := .string tx) (by simp [MapKept.IsKey]) false 9999
  have he : (entriesOf E.A).isEmpty = false := rfl
  cases hf : findW stepsW tx 0 with
  | none =>
    have hne := findW_mem hf
    have hn : Instr.findNow .string (.string tx) (entriesOf E.A) 0 = some none := find_none tx _ _ (by
      intro e he
      simp only [entriesOf, List.mem_cons, List.not_mem_nil, or_false] at he
      rcases he with rfl | rfl | rfl | rfl | rfl | rfl | rfl | rfl | rfl | rfl | rfl <;> exact ⟨_, rfl, hne _ (by simp [stepsW])⟩)
    simp [Instr.lookup, run_underlying ht, MapKept.run_getObj_map h, hc, MapKept.run_findKey hs hn, hz, Result.andThen, he]
  | some d =>
    obtain ⟨hg, -⟩ := findW_get _ _ _ _ hf
    have hd : d < 11 := by have := (List.getElem?_eq_some_iff.1 hg).1; simpa [stepsW] using this
    have hfound : ∃ i, Instr.findNow .string (.string tx) (entriesOf E.A) 0 = some (some (i, stepV E.A d)) := by
      match d, hd, hg with
      | 0, _, hg => cases hg; exact ⟨_, rfl⟩
      | 1, _, hg => cases hg; exact ⟨_, rfl⟩
      | 2, _, hg => cases hg; exact ⟨_, rfl⟩
      | 3, _, hg => cases hg; exact ⟨_, rfl⟩
      | 4, _, hg => cases hg; exact ⟨_, rfl⟩
      | 5, _, hg => cases hg; exact ⟨_, rfl⟩
      | 6, _, hg => cases hg; exact ⟨_, rfl⟩
      | 7, _, hg => cases hg; exact ⟨_, rfl⟩
      | 8, _, hg => cases hg; exact ⟨_, rfl⟩
      | 9, _, hg => cases hg; exact ⟨_, rfl⟩
      | 10, _, hg => cases hg; exact ⟨_, rfl⟩
    obtain ⟨i, hi⟩ := hfound
    simp [Instr.lookup, run_underlying ht, MapKept.run_getObj_map h, hc, MapKept.run_findKey hs hi, Result.andThen, he]
end Go.Proofs.YtmhpopkbmnhkkaaGreatDoor
