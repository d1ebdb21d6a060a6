/- Layer 2 (parse): the small calls of a reader. -/
import Derived.Test.YtaffgdgdojdoiaaGreatDoorParMem
import Derived.Deep.QuietTactic
import Derived.BigQuiet
import Derived.RegionTactic
import Derived.ChangeAlike
import Derived.BigRegion
namespace Go.Proofs.YtaffgdgdojdoiaaGreatDoor
open Go.RowKit Go.Lib

theorem Rd.cells {w : World} {E : Env} {s : RS} {d : Int} (h : Rd w E s d) : w.cell? ⟨E.R, 0, none⟩ = some (.slice (some ⟨E.G, s.pos E.n * 4, none⟩) (E.n - s.pos E.n) (E.cap - s.pos E.n)) ∧ w.cell? ⟨E.R, 1, none⟩ = some (.map (some E.M)) ∧
    w.cell? ⟨E.R, 2, none⟩ = some (.int .i64 d) ∧ w.cell? ⟨E.R, 3, none⟩ = some (.int .i64 s.e) ∧ w.cell? ⟨E.R, 4, none⟩ = some (.int .i64 s.l) ∧ w.cell? ⟨E.R, 5, none⟩ = some (.int .i64 s.c) :=
  ⟨by rw [cell_blk h.rd]; rfl, by rw [cell_blk h.rd]; rfl, by rw [cell_blk h.rd]; rfl, by rw [cell_blk h.rd]; rfl, by rw [cell_blk h.rd]; rfl, by rw [cell_blk h.rd]; rfl⟩
theorem Rd.free {w : World} {E : Env} {s : RS} {d : Int} (h : Rd w E s d) (i : Nat) : w.frozen? ⟨E.R, i, none⟩ = false := free_blk h.rd

set_option maxHeartbeats 1000000 in
set_option maxRecDepth 100000 in
theorem next_reads (E : Env) (s : RS) (d : Int) (w : World) (h : Rd w E s d) :
    Calls Tryz.prog 35 #[.pointer (some ⟨E.R, 0, none⟩)] w fun e w' => e = .returned (.agg #[.int .u8 (E.tok s).kind, .string (E.tok s).text, .int .i64 (E.tok s).spot.1, .int .i64 (E.tok s).spot.2]) ∧ Below w.heap.size w w' := by
  have hp := h.posLt
  obtain ⟨c0, -, -, -, -, -⟩ := h.cells
  obtain ⟨a0, a1, a2, a3⟩ := h.env.toks _ _ (tk_get hp)
  have hg := heap_lt h.rd
  have hG := World.block_lt_of_cell? _ _ a0
  have hcap := h.env.fit
  unfold maxLen at hcap
  unfold Env.tok
  generalize tk E.ts (s.pos E.n) = t at *
  obtain ⟨k, x, l, c⟩ := t
  simp only [] at *
  generalize s.pos E.n = p at *
  clear h
  generalize E.n = n at *
  generalize E.cap = cap at *
  generalize E.R = R at *
  generalize E.G = G at *
  have hlt : (0 : Int) < ((n - p : Nat) : Int) := by omega
  go_enter Tryz.func35, Tryz.ntmps35
  go_wp2
  refine bodyPost_ret (v := .agg #[.int .u8 k, .string x, .int .i64 l, .int .i64 c]) (by simp [results, Tryz.results35, go_sem]) rfl ⟨rfl, ?_⟩
  exact (by repeat (first | (with_reducible exact Below.refl _ _) | (with_reducible assumption) | ((with_reducible refine Below.setCell ?_ ?_ _); rotate_left; focus (simp; done)) | ((with_reducible refine Below.alloc ?_ ?_ _); rotate_left; focus (simp; done)) | (with_reducible refine Below.drew ?_)))

theorem int_gt {a b : Nat} (h : a < b) : decide ((b : Int) > (a : Int)) = true := by simp; omega

set_option maxRecDepth 100000 in
/-- The next token is passed, if it is not the last. -/
theorem pass_on (E : Env) (p : Nat) (d : Int) (w : World) (h : Rd w E (.ok p) d) (hp : p + 1 < E.n) :
    Calls Tryz.prog 74 #[.pointer (some ⟨E.R, 0, none⟩)] w fun e w' => e = .returned (.tuple #[]) ∧ Goes w E (.ok (p + 1)) d w' := by
  obtain ⟨c0, -, -, -, -, -⟩ := h.cells
  have f0 := h.free 0
  have hg := heap_lt h.rd
  have hcap := h.env.fit
  unfold maxLen at hcap
  have HH := Lib.hid h
  clear h
  simp only [RS.pos] at c0
  have hn : (1 : Int) < ((E.n - p : Nat) : Int) := by omega
  have e1 : p * 4 + 4 = (p + 1) * 4 := by omega
  have e2 : E.n - p - 1 = E.n - (p + 1) := by omega
  have e3 : E.cap - p - 1 = E.cap - (p + 1) := by omega
  have hsl : Hid (Goes w E (.ok (p + 1)) d (w.setCell ⟨E.R, 0, none⟩ (.slice (some ⟨E.G, p * 4 + 4, none⟩) (E.n - p - 1) (E.cap - p - 1)))) := by
    have k := (Kept.refl E.R w).setCell (p := ⟨E.R, 0, none⟩) (.inl rfl) (.slice (some ⟨E.G, (p + 1) * 4, none⟩) (E.n - (p + 1)) (E.cap - (p + 1)))
    rw [e1, e2, e3]
    exact ⟨⟨HH.out.env.kept k, heap_set HH.out.rd _, hp⟩, k⟩
  clear e1 e2 e3
  have hc2 : 1 ≤ E.n - p := by omega
  have hc3 : E.n - p ≤ E.cap - p := by omega
  have hc4 : 1 < E.cap - p := by omega
  go_enter Tryz.func74, Tryz.ntmps74
  go_wp2
  go_end0
  exact ⟨rfl, hsl.out⟩

theorem tokf0 (k : Nat) (x : ByteArray) (l c : Int) : ∀ w : World, (Instr.field 82 (.agg #[.int .u8 k, .string x, .int .i64 l, .int .i64 c]) 0).run Tryz.prog w = .ok (.int .u8 k) w := fun _ => by kernel_rfl
theorem tokf1 (k : Nat) (x : ByteArray) (l c : Int) : ∀ w : World, (Instr.field 82 (.agg #[.int .u8 k, .string x, .int .i64 l, .int .i64 c]) 1).run Tryz.prog w = .ok (.string x) w := fun _ => by kernel_rfl
theorem tokf2 (k : Nat) (x : ByteArray) (l c : Int) : ∀ w : World, (Instr.field 82 (.agg #[.int .u8 k, .string x, .int .i64 l, .int .i64 c]) 2).run Tryz.prog w = .ok (.agg #[.int .i64 l, .int .i64 c]) w := fun _ => by kernel_rfl

def RS.fails (E : Env) (x : Int) : RS → RS
  | .ok p => .bad x (tk E.ts p).spot.1 (tk E.ts p).spot.2
  | s => s
theorem Res.fails {α : Type} (E : Env) (x : Int) (s : RS) (a : α) : Res (pFail E.ts x) s a (s.fails E x) := by cases s <;> simp [Res, pFail, RS.fails]

theorem fails_ok (E : Env) (p : Nat) (d : Int) (w w1 : World) (x l c : Int) (hx : x ≠ 0) (h : Rd w1 E (.ok p) d) (b : Below w.heap.size w w1) (hw : Rd w E (.ok p) d) : Goes w E (.bad x l c) d
    ((((w1.setCell ⟨E.R, 3, none⟩ (.int .i64 x)).setCell ⟨E.R, 4, none⟩ (.int .i64 l)).setCell ⟨E.R, 5, none⟩ (.int .i64 c)).setCell ⟨E.R, 0, none⟩
      (.slice (some ⟨E.G, p * 4 + (E.n - p - 1) * 4, none⟩) (E.n - p - (E.n - p - 1)) (E.cap - p - (E.n - p - 1)))).drew := by
  have hp : p < E.n := h.fits
  have hcap := h.env.fit
  have k := (((((Kept.refl E.R w1).setCell (p := ⟨E.R, 3, none⟩) (.inl rfl) (.int .i64 x)).setCell (p := ⟨E.R, 4, none⟩) (.inl rfl) (.int .i64 l)).setCell (p := ⟨E.R, 5, none⟩) (.inl rfl) (.int .i64 c)).setCell (p := ⟨E.R, 0, none⟩) (.inl rfl)
      (.slice (some ⟨E.G, p * 4 + (E.n - p - 1) * 4, none⟩) (E.n - p - (E.n - p - 1)) (E.cap - p - (E.n - p - 1)))).drew
  have hr := heap_set (i := 0) (heap_set (i := 5) (heap_set (i := 4) (heap_set (i := 3) h.rd (.int .i64 x)) (.int .i64 l)) (.int .i64 c)) (.slice (some ⟨E.G, p * 4 + (E.n - p - 1) * 4, none⟩) (E.n - p - (E.n - p - 1)) (E.cap - p - (E.n - p - 1)))
  refine ⟨⟨h.env.kept k, ?_, hx⟩, (Kept.of_below b).trans k⟩
  refine Eq.trans hr ?_
  rw [show p * 4 + (E.n - p - 1) * 4 = (E.n - 1) * 4 by omega, show E.n - p - (E.n - p - 1) = E.n - (E.n - 1) by omega, show E.cap - p - (E.n - p - 1) = E.cap - (E.n - 1) by omega]
  rfl
theorem fails_bad (E : Env) (d : Int) (w : World) (x l c : Int) (h : Rd w E (.bad x l c) d) : Goes w E (.bad x l c) d
    (w.setCell ⟨E.R, 0, none⟩ (.slice (some ⟨E.G, (E.n - 1) * 4 + (E.n - (E.n - 1) - 1) * 4, none⟩) (E.n - (E.n - 1) - (E.n - (E.n - 1) - 1)) (E.cap - (E.n - 1) - (E.n - (E.n - 1) - 1)))).drew := by
  have hp := h.env.wf.pos
  have hcap := h.env.fit
  have k := ((Kept.refl E.R w).setCell (p := ⟨E.R, 0, none⟩) (.inl rfl) (.slice (some ⟨E.G, (E.n - 1) * 4 + (E.n - (E.n - 1) - 1) * 4, none⟩) (E.n - (E.n - 1) - (E.n - (E.n - 1) - 1)) (E.cap - (E.n - 1) - (E.n - (E.n - 1) - 1)))).drew
  refine ⟨⟨h.env.kept k, ?_, h.fits⟩, k⟩
  refine Eq.trans (heap_set h.rd _) ?_
  unfold Env.n at *
  rw [show (E.ts.length - 1) * 4 + (E.ts.length - (E.ts.length - 1) - 1) * 4 = (E.ts.length - 1) * 4 by omega, show E.ts.length - (E.ts.length - 1) - (E.ts.length - (E.ts.length - 1) - 1) = E.ts.length - (E.ts.length - 1) by omega, show E.cap - (E.ts.length - 1) - (E.ts.length - (E.ts.length - 1) - 1) = E.cap - (E.ts.length - 1) by omega]
  rfl

set_option maxHeartbeats 1000000 in
set_option maxRecDepth 100000 in
theorem fail_any (E : Env) (s : RS) (d : Int) (w : World) (x : Int) (hx : x ≠ 0) (h : Rd w E s d) :
    Calls Tryz.prog 36 #[.pointer (some ⟨E.R, 0, none⟩), .int .i64 x] w fun e w' => e = .returned (.tuple #[]) ∧ Goes w E (s.fails E x) d w' := by
  have hp := h.posLt
  have hcap := h.env.fit
  unfold maxLen at hcap
  cases s with
  | ok p =>
    have hnext := next_reads E _ d w h
    have HN := Lib.hid hnext
    clear hnext
    obtain ⟨c0, -, -, c3, -, -⟩ := h.cells
    have hg := heap_lt h.rd
    have HH := Lib.hid h
    clear h
    simp only [RS.pos, RS.e] at c0 c3 hp
    have q1 : ((0 : Int) == 0) = true := rfl
    go_enter Tryz.func36, Tryz.ntmps36
    go_wp2_with fail
    refine HN.out.mono ?_
    rintro e w1 ⟨rfl, b1⟩
    have h1 := HH.out.below b1
    have hfs : RS.fails E x (.ok p) = .bad x (tk E.ts p).spot.1 (tk E.ts p).spot.2 := rfl
    obtain ⟨c0', -, -, c3', c4', c5'⟩ := h1.cells
    have f0 := h1.free 0
    have f3 := h1.free 3
    have f4 := h1.free 4
    have f5 := h1.free 5
    have H1 := Lib.hid h1
    clear h1
    simp only [RS.pos, RS.e, RS.l, RS.c, Env.tok] at c0' c3' c4' c5' ⊢
    generalize tk E.ts p = t at *
    obtain ⟨kd, tx, l, c⟩ := t
    have hf2 := tokf2 kd tx l c
    have HF := Lib.hid hfs
    clear hfs
    have HX := Lib.hid hx
    have B1 := Lib.hid b1
    clear hx b1
    go_wp2
    go_region
    go_wp2
    go_end0
    exact ⟨rfl, by rw [HF.out]; exact fails_ok E p d w w1 x l c HX.out H1.out B1.out HH.out⟩
  | bad x0 l0 y0 =>
    obtain ⟨c0, -, -, c3, -, -⟩ := h.cells
    have f0 := h.free 0
    have hg := heap_lt h.rd
    have hx0 : x0 ≠ 0 := h.fits
    have q1 : (x0 == 0) = false := by simpa using hx0
    have HH := Lib.hid h
    clear h hx0 hx
    simp only [RS.pos, RS.e] at c0 c3 hp
    go_enter Tryz.func36, Tryz.ntmps36
    go_wp2
    go_region
    go_wp2
    go_end0
    exact ⟨rfl, fails_bad E d w x0 l0 y0 HH.out⟩

end Go.Proofs.YtaffgdgdojdoiaaGreatDoor
