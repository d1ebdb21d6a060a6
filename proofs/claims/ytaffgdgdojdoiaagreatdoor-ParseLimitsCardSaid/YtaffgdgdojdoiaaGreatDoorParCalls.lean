/- Layer 2 (parse): a reader skips, marks, reads names, numbers, one of some words. -/
import Derived.Test.YtaffgdgdojdoiaaGreatDoorParBase
import Derived.Lib.SmallJoins
namespace Go.Proofs.YtaffgdgdojdoiaaGreatDoor
open Go.RowKit Go.Lib

theorem tok_bad {E : Env} {w : World} {x l c d : Int} (h : Rd w E (.bad x l c) d) : (E.tok (.bad x l c)).kind = 0 ∧ (E.tok (.bad x l c)).text = ⟨#[]⟩ := by
  have hp := h.env.wf.pos
  have hl : E.n - 1 < E.ts.length := by unfold Env.n; omega
  have h0 : (tk E.ts (E.n - 1)).kind = 0 := (h.env.wf.last _ hl).2 (by unfold Env.n; omega)
  exact ⟨h0, (h.env.wf.all _ (tk_mem hl)).none h0⟩
theorem tok_ok {E : Env} {w : World} {p : Nat} {d : Int} (h : Rd w E (.ok p) d) (hk : (tk E.ts p).kind ≠ 0) : p + 1 < E.n := by
  have hp : p < E.n := h.fits
  have := h.env.wf.last p hp
  unfold Env.n at *
  rcases Nat.lt_or_ge (p + 1) E.ts.length with h1 | h1
  · exact h1
  · exact absurd (this.2 (by omega)) hk
theorem tok_text {E : Env} {w : World} {p : Nat} {d : Int} (h : Rd w E (.ok p) d) (hk : (tk E.ts p).text ≠ ⟨#[]⟩) : p + 1 < E.n :=
  tok_ok h fun h0 => hk ((h.env.wf.all _ (tk_mem h.fits)).none h0)
/-- The next token reads so, or it doesn't. -/
theorem sees_or {E : Env} {w : World} {s : RS} {d : Int} (h : Rd w E s d) (tx : ByteArray) (hne : tx ≠ ⟨#[]⟩) : (∃ p, s = .ok p ∧ p + 1 < E.n ∧ (tk E.ts p).text = tx) ∨ (E.tok s).text ≠ tx := by
  by_cases ht : (E.tok s).text = tx
  · cases s with
    | ok p => exact .inl ⟨p, rfl, tok_text h (by have : (tk E.ts p).text = tx := ht; rw [this]; exact hne), ht⟩
    | bad x l c => exact absurd ((tok_bad h).2.symm.trans ht) (fun e => hne e.symm)
  · exact .inr ht

theorem str_ne {a b : ByteArray} (h : a ≠ b) : (a.toList == b.toList) = false := (Lib.bytes_beq_false_iff a b).2 h
theorem str_eq {a b : ByteArray} (h : a = b) : (a.toList == b.toList) = true := (Lib.bytes_beq_iff a b).2 h

set_option maxHeartbeats 1000000 in
set_option maxRecDepth 100000 in
theorem skip_yes (E : Env) (p : Nat) (d : Int) (w : World) (tx : ByteArray) (h : Rd w E (.ok p) d) (hp : p + 1 < E.n) (ht : (tk E.ts p).text = tx) :
    Calls Tryz.prog 56 #[.pointer (some ⟨E.R, 0, none⟩), .string tx] w fun e w' => e = .returned (.bool true) ∧ Goes w E (.ok (p + 1)) d w' := by
  have hnext := next_reads E _ d w h
  have HN := Lib.hid hnext
  have HP := Lib.hid hp
  have hq : Hid (∀ w1, Below w.heap.size w w1 → Calls Tryz.prog 74 #[.pointer (some ⟨E.R, 0, none⟩)] w1 fun e w' => e = .returned (.tuple #[]) ∧ Goes w1 E (.ok (p + 1)) d w') := fun w1 b1 => pass_on E p d w1 (h.below b1) hp
  clear hnext hp h
  go_enter Tryz.func56, Tryz.ntmps56
  go_wp2_with fail
  refine HN.out.mono ?_
  rintro e w1 ⟨rfl, b1⟩
  simp only [Env.tok, RS.pos]
  have he := str_eq ht
  generalize tk E.ts p = t at *
  obtain ⟨k, x, l, c⟩ := t
  simp only [] at ht he
  subst ht
  have hf1 := tokf1 k x l c
  have B1 := Lib.hid b1
  clear b1
  go_wp2_with fail
  refine (hq.out w1 B1.out).mono ?_
  rintro e w2 ⟨rfl, g⟩
  go_wp2
  go_ret
  exact ⟨rfl, g.rd, (Kept.of_below B1.out).trans g.kept⟩

set_option maxHeartbeats 1000000 in
set_option maxRecDepth 100000 in
theorem skip_no (E : Env) (s : RS) (d : Int) (w : World) (tx : ByteArray) (h : Rd w E s d) (ht : (E.tok s).text ≠ tx) :
    Calls Tryz.prog 56 #[.pointer (some ⟨E.R, 0, none⟩), .string tx] w fun e w' => e = .returned (.bool false) ∧ Below w.heap.size w w' := by
  have hnext := next_reads E _ d w h
  have HN := Lib.hid hnext
  clear hnext
  go_enter Tryz.func56, Tryz.ntmps56
  go_wp2_with fail
  refine HN.out.mono ?_
  rintro e w1 ⟨rfl, b1⟩
  have he := str_ne ht
  generalize E.tok s = t at *
  obtain ⟨k, x, l, c⟩ := t
  simp only [] at he
  have hf1 := tokf1 k x l c
  have B1 := Lib.hid b1
  clear b1 ht
  go_wp2
  go_ret
  exact ⟨rfl, B1.out⟩

theorem goes_below {E : Env} {s : RS} {d : Int} {w w' : World} (h : Rd w E s d) (b : Below w.heap.size w w') : Goes w E s d w' := ⟨h.below b, .of_below b⟩
theorem Goes.trans {E : Env} {s s' : RS} {d d' : Int} {w w1 w2 : World} (h : Goes w E s d w1) (k : Goes w1 E s' d' w2) : Goes w E s' d' w2 := ⟨k.rd, h.kept.trans k.kept⟩
theorem Goes.of_below {E : Env} {s : RS} {d : Int} {w w1 w2 : World} (b : Below w.heap.size w w1) (k : Goes w1 E s d w2) : Goes w E s d w2 := ⟨k.rd, (Kept.of_below b).trans k.kept⟩
theorem Goes.below {E : Env} {s : RS} {d : Int} {w w1 w2 : World} (k : Goes w E s d w1) (b : Below w1.heap.size w1 w2) : Goes w E s d w2 := ⟨k.rd.below b, k.kept.trans (.of_below b)⟩

def MarkEnds (E : Env) (s : RS) (d : Int) (tx : ByteArray) (w : World) (e : Ending) (w' : World) : Prop := e = .returned (.tuple #[]) ∧ ∃ s', Res (pMark E.ts tx) s () s' ∧ Goes w E s' d w'

set_option maxHeartbeats 1000000 in
set_option maxRecDepth 100000 in
theorem mark_any (E : Env) (s : RS) (d : Int) (w : World) (tx : ByteArray) (hne : tx ≠ ⟨#[]⟩) (h : Rd w E s d) :
    Calls Tryz.prog 42 #[.pointer (some ⟨E.R, 0, none⟩), .string tx] w (MarkEnds E s d tx w) := by
  rcases sees_or h tx hne with ⟨p, rfl, hp, ht⟩ | ht
  · have hs := skip_yes E p d w tx h hp ht
    have HS := Lib.hid hs
    have hr : Hid (Res (pMark E.ts tx) (.ok p) () (.ok (p + 1))) := Res.of_ok (by simp [pMark, ht])
    clear hs h hp ht hne
    go_enter Tryz.func42, Tryz.ntmps42
    go_wp2_with fail
    refine HS.out.mono ?_
    rintro e w1 ⟨rfl, g⟩
    go_wp2
    go_end0
    exact ⟨rfl, _, hr.out, g⟩
  · have hs := skip_no E s d w tx h ht
    have HS := Lib.hid hs
    have hq : Hid (∀ w1, Below w.heap.size w w1 → _) := fun w1 b1 => fail_any E s d w1 5 (by decide) (h.below b1)
    have hr : Hid (Res (pMark E.ts tx) s () (s.fails E 5)) := by
      cases s with
      | ok p => exact (Res.fails E 5 (.ok p) ()).congr (fun q hq => by cases hq; have : (tk E.ts p).text ≠ tx := ht; simp [pMark, this])
      | bad x l c => rfl
    clear hs h ht hne
    go_enter Tryz.func42, Tryz.ntmps42
    go_wp2_with fail
    refine HS.out.mono ?_
    rintro e w1 ⟨rfl, b1⟩
    have B1 := Lib.hid b1
    clear b1
    go_wp2_with fail
    refine (hq.out w1 B1.out).mono ?_
    rintro e w2 ⟨rfl, g⟩
    go_wp2
    go_end0
    exact ⟨rfl, _, hr.out, g.of_below B1.out⟩
end Go.Proofs.YtaffgdgdojdoiaaGreatDoor
