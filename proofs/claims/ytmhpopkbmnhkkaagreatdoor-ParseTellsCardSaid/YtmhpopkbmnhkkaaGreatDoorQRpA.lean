import Derived.Test.YtmhpopkbmnhkkaaGreatDoorQParA
import Derived.Test.YtmhpopkbmnhkkaaGreatDoorQPar
/- joustref02: how the reference's reader of tokens lies in memory, and what its calls leave alone. -/
namespace Go.Proofs.YtmhpopkbmnhkkaaGreatDoor
open Go.RowKit Go.Lib

structure REnv where
  R : Nat
  G : Nat
  cap : Nat
  ts : List Tok
def REnv.n (E : REnv) : Nat := E.ts.length

/-- What stays as it is while a reader reads. -/
structure REnvAt (w : World) (E : REnv) : Prop where
  toks : ∀ k t, E.ts[k]? = some t → w.cell? ⟨E.G, k * 4, none⟩ = some (.int .u8 t.kind) ∧ w.cell? ⟨E.G, k * 4 + 1, none⟩ = some (.string t.text) ∧ w.cell? ⟨E.G, k * 4 + 2, none⟩ = some (.int .i64 t.spot.1) ∧ w.cell? ⟨E.G, k * 4 + 3, none⟩ = some (.int .i64 t.spot.2)
  gR : E.G ≠ E.R
  fit : E.n ≤ E.cap ∧ E.cap ≤ maxLen
  wf : WToks E.ts
theorem REnvAt.kept {w w' : World} {E : REnv} (h : REnvAt w E) (k : Kept E.R w w') : REnvAt w' E := by
  refine ⟨fun i t hi => ?_, h.gR, h.fit, h.wf⟩
  obtain ⟨a, b, c, d⟩ := h.toks i t hi
  exact ⟨k.cell h.gR a, k.cell h.gR b, k.cell h.gR c, k.cell h.gR d⟩

def rrCells (E : REnv) (s : RS) (a : Nat) : Array Value := #[.slice (some ⟨E.G, 0, none⟩) E.n E.cap, .int .i64 a, .int .i64 s.e, .int .i64 s.l, .int .i64 s.c]
/-- A reader in memory; behind a fault its place doesn't count. -/
structure RR (w : World) (E : REnv) (s : RS) : Prop where
  env : REnvAt w E
  rd : ∃ a : Nat, w.heap[E.R]? = some (.cells (rrCells E s a) 75 (0, 0)) ∧ ∀ p, s = .ok p → a = p
  fits : s.fits E.n
theorem RR.below {w w' : World} {E : REnv} {s : RS} (h : RR w E s) (b : Below w.heap.size w w') : RR w' E s := by
  obtain ⟨a, ha, hp⟩ := h.rd
  exact ⟨h.env.kept (.of_below b), ⟨a, (b.block _ (heap_lt ha)).trans ha, hp⟩, h.fits⟩
theorem RR.lt {w : World} {E : REnv} {s : RS} (h : RR w E s) : E.R < w.heap.size := by obtain ⟨a, ha, -⟩ := h.rd; exact heap_lt ha
/-- What the reader's next token is; behind a fault it is none. -/
def REnv.tok (E : REnv) : RS → Tok
  | .ok p => tk E.ts p
  | .bad _ _ _ => ⟨0, ⟨#[]⟩, (0, 0)⟩
structure RGoes (w : World) (E : REnv) (s' : RS) (w' : World) : Prop where
  rd : RR w' E s'
  kept : Kept E.R w w'
section
variable {w w' w1 w2 W : World} {E : REnv} {s s' : RS}
theorem rgoes_below (h : RR w E s) (b : Below w.heap.size w w') : RGoes w E s w' := ⟨h.below b, .of_below b⟩
theorem RGoes.trans (h : RGoes w E s w1) (k : RGoes w1 E s' w2) : RGoes w E s' w2 := ⟨k.rd, h.kept.trans k.kept⟩
theorem RGoes.of_below (b : Below w.heap.size w w1) (k : RGoes w1 E s w2) : RGoes w E s w2 := ⟨k.rd, (Kept.of_below b).trans k.kept⟩
theorem RGoes.below (k : RGoes w E s w1) (b : Below w1.heap.size w1 w2) : RGoes w E s w2 := ⟨k.rd.below b, k.kept.trans (.of_below b)⟩
theorem RGoes.start (h : RR w E s) : RGoes w E s w := ⟨h, Kept.refl _ _⟩
theorem RGoes.alloc (g : RGoes w E s W) (o : Obj) : RGoes w E s (W.alloc o) := g.below ((Below.refl _ _).alloc (Nat.le_refl _) _)
theorem RGoes.drew (g : RGoes w E s W) : RGoes w E s W.drew := g.below (Below.refl _ _).drew
theorem RR.both (h : RR w E s) : REnvAt w E ∧ E.R < w.heap.size := ⟨h.env, h.lt⟩
theorem RR.far {w W W' : World} {E : REnv} {s : RS} (h : REnvAt w E ∧ E.R < w.heap.size) (g : RR W E s) (k : Kept E.R w W') (hb : W'.heap[E.R]? = W.heap[E.R]?) : RR W' E s := by
  obtain ⟨a, ha, hp⟩ := g.rd
  exact ⟨h.1.kept k, ⟨a, hb.trans ha, hp⟩, g.fits⟩
/-- A store into a block that is new. -/
theorem RGoes.store (g : RGoes w E s W) (h : REnvAt w E ∧ E.R < w.heap.size) {p : Addr} (hp : w.heap.size ≤ p.block) (u : Value) : RGoes w E s (W.setCell p u) :=
  ⟨.far h g.rd (g.kept.setCell (.inr hp) u) (heap_set_far (by omega) _), g.kept.setCell (.inr hp) u⟩
/-- Behind an append to a row that is new. -/
theorem RGoes.grown {W' : World} (g : RGoes w E s W) (h : REnvAt w E ∧ E.R < w.heap.size) {row : Option Nat} (hg : W.grownBy W' row) (hr : ∀ k, row = some k → w.heap.size ≤ k) : RGoes w E s W' := by
  have k : Kept E.R w W' := ⟨hg.os.trans g.kept.os, hg.tape.trans g.kept.tape, hg.output.trans g.kept.output, Nat.le_trans g.kept.size hg.size,
    fun i hi hne => (hg.block i (Nat.lt_of_lt_of_le hi g.kept.size) (fun e => by have := hr i e.symm; omega)).trans (g.kept.block i hi hne)⟩
  exact ⟨.far h g.rd k (hg.block _ g.rd.lt (fun e => by have := hr _ e.symm; have := h.2; omega)), k⟩
end

/-- What a word or a mark is: it has a byte that is no digit. -/
def wordy (tx : ByteArray) : Bool := tx.data.toList.any fun b => decide (b.toNat < 48 ∨ 57 < b.toNat)
theorem wordy_tok {t : Tok} {tx : ByteArray} (h : WTok t) (hw : wordy tx = true) (ht : t.text = tx) : t.kind ≠ 0 ∧ t.kind ≠ 2 := by
  subst ht
  refine ⟨fun e => ?_, fun e => ?_⟩
  · rw [h.none e] at hw; cases hw
  · obtain ⟨b, hb, hd⟩ := List.any_eq_true.1 hw
    have := (h.num e).1 b hb
    have := of_decide_eq_true hd
    omega
theorem wordy_ne {tx : ByteArray} (hw : wordy tx = true) : tx ≠ ⟨#[]⟩ := fun e => by subst e; cases hw
/-- Is the next token so? -/
def sees (E : REnv) (s : RS) (tx : ByteArray) : Bool := match s with
  | .ok p => (tk E.ts p).text = tx
  | .bad _ _ _ => false
def RS.step : RS → Bool → RS
  | .ok p, true => .ok (p + 1)
  | s, _ => s
theorem sees_yes {E : REnv} {s : RS} {tx : ByteArray} (h : sees E s tx = true) : ∃ p, s = .ok p ∧ (tk E.ts p).text = tx := by
  cases s with
  | ok p => exact ⟨p, rfl, of_decide_eq_true h⟩
  | bad _ _ _ => cases h
theorem sees_no {E : REnv} {p : Nat} {tx : ByteArray} (h : sees E (.ok p) tx = false) : (tk E.ts p).text ≠ tx := of_decide_eq_false h
theorem rtok_ok {E : REnv} {w : World} {p : Nat} (h : RR w E (.ok p)) (hk : (tk E.ts p).kind ≠ 0) : p + 1 < E.n := by
  have hp : p < E.n := h.fits
  have := h.env.wf.last p hp
  unfold REnv.n at *
  rcases Nat.lt_or_ge (p + 1) E.ts.length with h1 | h1
  · exact h1
  · exact absurd (this.2 (by omega)) hk
def RS.failR (E : REnv) (x : Int) : RS → RS
  | .ok p => .bad x (tk E.ts p).spot.1 (tk E.ts p).spot.2
  | s => s
theorem Res.failR {α : Type} (E : REnv) (x : Int) (s : RS) (a : α) : Res (pFail E.ts x) s a (s.failR E x) := by cases s <;> simp [Res, pFail, RS.failR]
end Go.Proofs.YtmhpopkbmnhkkaaGreatDoor

/- joustref02: the small calls of the reference's reader. -/
namespace Go.Proofs.YtmhpopkbmnhkkaaGreatDoor
open Go.RowKit Go.Lib

theorem RR.cells {w : World} {E : REnv} {s : RS} (h : RR w E s) : ∃ a : Nat, w.heap[E.R]? = some (.cells (rrCells E s a) 75 (0, 0)) ∧ (∀ p, s = .ok p → a = p) ∧ w.cell? ⟨E.R, 0, none⟩ = some (.slice (some ⟨E.G, 0, none⟩) E.n E.cap) ∧ w.cell? ⟨E.R, 1, none⟩ = some (.int .i64 a) ∧
    w.cell? ⟨E.R, 2, none⟩ = some (.int .i64 s.e) ∧ w.cell? ⟨E.R, 3, none⟩ = some (.int .i64 s.l) ∧ w.cell? ⟨E.R, 4, none⟩ = some (.int .i64 s.c) ∧ (∀ i, w.frozen? ⟨E.R, i, none⟩ = false) := by
  obtain ⟨a, ha, hp⟩ := h.rd
  exact ⟨a, ha, hp, by rw [cell_blk ha]; rfl, by rw [cell_blk ha]; rfl, by rw [cell_blk ha]; rfl, by rw [cell_blk ha]; rfl, by rw [cell_blk ha]; rfl, fun i => free_blk ha⟩

set_option maxHeartbeats 1000000 in
set_option maxRecDepth 100000 in
theorem rnext_any (E : REnv) (s : RS) (w : World) (h : RR w E s) :
    Calls Tryz.prog 71 #[.pointer (some ⟨E.R, 0, none⟩)] w fun e w' => e = .returned (.agg #[.int .u8 (E.tok s).kind, .string (E.tok s).text, .int .i64 (E.tok s).spot.1, .int .i64 (E.tok s).spot.2]) ∧ Below w.heap.size w w' := by
  obtain ⟨a, ha, hap, c0, c1, c2, -, -, -⟩ := h.cells
  have hg := heap_lt ha
  have hcap := h.env.fit
  unfold maxLen at hcap
  cases s with
  | bad x l c =>
    have hx : x ≠ 0 := h.fits
    have q1 : (x != 0) = true := by simpa using hx
    simp only [RS.e] at c2
    clear h ha hap hx
    go_enter Tryz.func71, Tryz.ntmps71
    go_wp2
    refine bodyPost_ret (v := .agg #[.int .u8 0, .string ⟨#[]⟩, .int .i64 0, .int .i64 0]) (by simp [results, Tryz.results71, go_sem]) rfl ⟨rfl, ?_⟩
    exact (by repeat (first | (with_reducible exact Below.refl _ _) | (with_reducible assumption) | ((with_reducible refine Below.setCell ?_ ?_ _); rotate_left; focus (simp; done)) | ((with_reducible refine Below.alloc ?_ ?_ _); rotate_left; focus (simp; done)) | (with_reducible refine Below.drew ?_)))
  | ok p =>
    have hp : p < E.n := h.fits
    have e := hap p rfl
    subst e
    obtain ⟨a0, a1, a2, a3⟩ := h.env.toks _ _ (tk_get hp)
    have hG := World.block_lt_of_cell? _ _ a0
    simp only [RS.e] at c2
    show Calls _ _ _ _ fun e w' => e = .returned (.agg #[.int .u8 (tk E.ts a).kind, .string (tk E.ts a).text, .int .i64 (tk E.ts a).spot.1, .int .i64 (tk E.ts a).spot.2]) ∧ Below w.heap.size w w'
    generalize tk E.ts a = t at *
    obtain ⟨k, x, l, c⟩ := t
    simp only [] at *
    clear h ha hap
    generalize E.n = n at *
    generalize E.cap = cap at *
    generalize E.R = R at *
    generalize E.G = G at *
    have hlt : (a : Int) < (n : Int) := by omega
    go_enter Tryz.func71, Tryz.ntmps71
    go_wp2
    go_region
    go_wp2
    refine bodyPost_ret (v := .agg #[.int .u8 k, .string x, .int .i64 l, .int .i64 c]) (by simp [results, Tryz.results71, go_sem]) rfl ⟨rfl, ?_⟩
    exact (by repeat (first | (with_reducible exact Below.refl _ _) | (with_reducible assumption) | ((with_reducible refine Below.setCell ?_ ?_ _); rotate_left; focus (simp; done)) | ((with_reducible refine Below.alloc ?_ ?_ _); rotate_left; focus (simp; done)) | (with_reducible refine Below.drew ?_)))

theorem rfails_ok (E : REnv) (a : Nat) (w w1 : World) (x l c : Int) (hx : x ≠ 0) (h : RR w1 E (.ok a)) (k0 : Kept E.R w w1) : RGoes w E (.bad x l c)
    (((w1.setCell ⟨E.R, 2, none⟩ (.int .i64 x)).setCell ⟨E.R, 3, none⟩ (.int .i64 l)).setCell ⟨E.R, 4, none⟩ (.int .i64 c)) := by
  obtain ⟨a', ha, -⟩ := h.rd
  have k := (((Kept.refl E.R w1).setCell (p := ⟨E.R, 2, none⟩) (.inl rfl) (.int .i64 x)).setCell (p := ⟨E.R, 3, none⟩) (.inl rfl) (.int .i64 l)).setCell (p := ⟨E.R, 4, none⟩) (.inl rfl) (.int .i64 c)
  have hr := heap_set (i := 4) (heap_set (i := 3) (heap_set (i := 2) ha (.int .i64 x)) (.int .i64 l)) (.int .i64 c)
  exact ⟨⟨h.env.kept k, ⟨a', hr, fun p hp => by cases hp⟩, hx⟩, k0.trans k⟩

set_option maxHeartbeats 1000000 in
set_option maxRecDepth 100000 in
theorem rfails_any (E : REnv) (s : RS) (w : World) (x : Int) (hx : x ≠ 0) (h : RR w E s) :
    Calls Tryz.prog 37 #[.pointer (some ⟨E.R, 0, none⟩), .int .i64 x] w fun e w' => e = .returned (.tuple #[]) ∧ RGoes w E (s.failR E x) w' := by
  obtain ⟨a, ha, hap, c0, c1, c2, c3, c4, cf⟩ := h.cells
  have f2 := cf 2
  have f3 := cf 3
  have f4 := cf 4
  have hg := heap_lt ha
  have hcap := h.env.fit
  unfold maxLen at hcap
  clear cf
  cases s with
  | bad x0 l0 y0 =>
    have hx0 : x0 ≠ 0 := h.fits
    have q1 : (x0 == 0) = false := by simpa using hx0
    have HH := Lib.hid (RGoes.start h)
    simp only [RS.e, RS.l, RS.c] at c2 c3 c4
    clear h ha hap hx0 hx
    go_enter Tryz.func37, Tryz.ntmps37
    go_wp2
    go_end0
    exact ⟨rfl, HH.out⟩
  | ok p =>
    have hp : p < E.n := h.fits
    have e := hap p rfl
    subst e
    obtain ⟨a0, a1, a2, a3⟩ := h.env.toks _ _ (tk_get hp)
    have hG := World.block_lt_of_cell? _ _ a0
    have HR := Lib.hid h
    have HX := Lib.hid hx
    have q1 : ((0 : Int) == 0) = true := rfl
    have hne := h.env.gR
    have hne2 := Ne.symm hne
    simp only [RS.e, RS.l, RS.c] at c2 c3 c4
    show Calls _ _ _ _ fun e w' => e = .returned (.tuple #[]) ∧ RGoes w E (.bad x (tk E.ts a).spot.1 (tk E.ts a).spot.2) w'
    generalize tk E.ts a = t at *
    obtain ⟨k, tx, l, c⟩ := t
    simp only [] at *
    have hrf := rfails_ok E a w w x l c HX.out HR.out (Kept.refl _ _)
    have HF := Lib.hid hrf
    clear h ha hap hx hrf HR HX
    have hlt : (a : Int) < (E.n : Int) := by omega
    go_enter Tryz.func37, Tryz.ntmps37
    go_wp2
    go_region
    go_wp2
    go_end0
    exact ⟨rfl, HF.out.drew⟩

set_option maxHeartbeats 1000000 in
set_option maxRecDepth 100000 in
theorem ris_any (E : REnv) (s : RS) (w : World) (tx : ByteArray) (b : Bool) (hw : wordy tx = true) (hb : sees E s tx = b) (h : RR w E s) :
    Calls Tryz.prog 72 #[.pointer (some ⟨E.R, 0, none⟩), .string tx] w fun e w' => e = .returned (.bool b) ∧ Below w.heap.size w w' := by
  have hn : Hid (∀ W, RR W E s → _) := fun W hW => rnext_any E s W hW
  have HH := Lib.hid h
  have hlt := h.lt
  cases s with
  | bad x l c =>
    have hx : x ≠ 0 := h.fits
    have q1 : (x == 0) = false := by simpa using hx
    have hb' : b = false := hb.symm
    subst hb'
    clear h hb hx
    go_enter Tryz.func72, Tryz.ntmps72
    go_wp2_with fail
    refine (hn.out _ HH.out).mono ?_
    rintro e w1 ⟨rfl, b1⟩
    have h1 := HH.out.below b1
    obtain ⟨a, ha, hap, c0, c1, c2, c3, c4, cf⟩ := h1.cells
    have B1 := Lib.hid b1
    have hlt1 := h1.lt
    simp only [RS.e] at c2
    clear b1 h1 ha hap c0 c1 c3 c4 cf
    go_wp2
    go_ret
    exact ⟨rfl, by repeat (first | (with_reducible exact Below.refl _ _) | (with_reducible exact B1.out) | (with_reducible assumption) | ((with_reducible refine Below.setCell ?_ ?_ _); rotate_left; focus (simp; done)) | ((with_reducible refine Below.alloc ?_ ?_ _); rotate_left; focus (first | exact Nat.le_refl _ | exact B1.out.size | (simp; done) | (have := B1.out.size; simp; omega))) | (with_reducible refine Below.drew ?_))⟩
  | ok p =>
    have hp : p < E.n := h.fits
    have hwt := h.env.wf.all _ (tk_mem (show p < E.ts.length from hp))
    have q1 : ((0 : Int) == 0) = true := rfl
    have hbt : (decide ((tk E.ts p).text = tx)) = b := hb
    have hcase : ((tk E.ts p).kind = 0 ∧ b = false) ∨ ((tk E.ts p).kind ≠ 0 ∧ (tk E.ts p).kind = 2 ∧ b = false) ∨ ((tk E.ts p).kind ≠ 0 ∧ (tk E.ts p).kind ≠ 2) := by
      by_cases k0 : (tk E.ts p).kind = 0
      · exact .inl ⟨k0, by rw [← hbt]; exact decide_eq_false fun e => (wordy_tok hwt hw e).1 k0⟩
      by_cases k2 : (tk E.ts p).kind = 2
      · exact .inr (.inl ⟨k0, k2, by rw [← hbt]; exact decide_eq_false fun e => (wordy_tok hwt hw e).2 k2⟩)
      exact .inr (.inr ⟨k0, k2⟩)
    have hlt2 := HH.out.lt
    simp only [REnv.tok] at hn
    clear h hb hwt hw
    generalize tk E.ts p = t at *
    obtain ⟨k, x, l, c⟩ := t
    simp only [] at hcase hbt hn
    have hf0 := tokf0 k x l c
    have hf1 := tokf1 k x l c
    rcases hcase with ⟨rfl, rfl⟩ | ⟨k0, rfl, rfl⟩ | ⟨k0, k2⟩
    · clear hbt
      go_enter Tryz.func72, Tryz.ntmps72
      go_wp2_with fail
      refine (hn.out _ HH.out).mono ?_
      rintro e w1 ⟨rfl, b1⟩
      have h1 := HH.out.below b1
      obtain ⟨a, ha, hap, c0, c1, c2, c3, c4, cf⟩ := h1.cells
      have B1 := Lib.hid b1
      have hlt1 := h1.lt
      simp only [RS.e] at c2
      clear b1 h1 ha hap c0 c1 c3 c4 cf
      go_wp2
      go_ret
      exact ⟨rfl, by repeat (first | (with_reducible exact Below.refl _ _) | (with_reducible exact B1.out) | (with_reducible assumption) | ((with_reducible refine Below.setCell ?_ ?_ _); rotate_left; focus (simp; done)) | ((with_reducible refine Below.alloc ?_ ?_ _); rotate_left; focus (first | exact Nat.le_refl _ | exact B1.out.size | (simp; done) | (have := B1.out.size; simp; omega))) | (with_reducible refine Below.drew ?_))⟩
    · clear hbt
      go_enter Tryz.func72, Tryz.ntmps72
      go_wp2_with fail
      refine (hn.out _ HH.out).mono ?_
      rintro e w1 ⟨rfl, b1⟩
      have h1 := HH.out.below b1
      obtain ⟨a, ha, hap, c0, c1, c2, c3, c4, cf⟩ := h1.cells
      have B1 := Lib.hid b1
      have hlt1 := h1.lt
      simp only [RS.e] at c2
      clear b1 h1 ha hap c0 c1 c3 c4 cf
      go_wp2
      go_ret
      exact ⟨rfl, by repeat (first | (with_reducible exact Below.refl _ _) | (with_reducible exact B1.out) | (with_reducible assumption) | ((with_reducible refine Below.setCell ?_ ?_ _); rotate_left; focus (simp; done)) | ((with_reducible refine Below.alloc ?_ ?_ _); rotate_left; focus (first | exact Nat.le_refl _ | exact B1.out.size | (simp; done) | (have := B1.out.size; simp; omega))) | (with_reducible refine Below.drew ?_))⟩
    · have q3 : ((k : Int) != 0) = true := by simp; omega
      have q4 : ((k : Int) != 2) = true := by simp; omega
      clear k0 k2
      go_enter Tryz.func72, Tryz.ntmps72
      go_wp2_with fail
      refine (hn.out _ HH.out).mono ?_
      rintro e w1 ⟨rfl, b1⟩
      have h1 := HH.out.below b1
      obtain ⟨a, ha, hap, c0, c1, c2, c3, c4, cf⟩ := h1.cells
      have B1 := Lib.hid b1
      have hlt1 := h1.lt
      simp only [RS.e] at c2
      clear b1 h1 ha hap c0 c1 c3 c4 cf
      cases b with
      | true =>
        have q5 := str_eq (of_decide_eq_true hbt)
        clear hbt
        go_wp2
        go_ret
        exact ⟨rfl, by repeat (first | (with_reducible exact Below.refl _ _) | (with_reducible exact B1.out) | (with_reducible assumption) | ((with_reducible refine Below.setCell ?_ ?_ _); rotate_left; focus (simp; done)) | ((with_reducible refine Below.alloc ?_ ?_ _); rotate_left; focus (first | exact Nat.le_refl _ | exact B1.out.size | (simp; done) | (have := B1.out.size; simp; omega))) | (with_reducible refine Below.drew ?_))⟩
      | false =>
        have q5 := str_ne (of_decide_eq_false hbt)
        clear hbt
        go_wp2
        go_ret
        exact ⟨rfl, by repeat (first | (with_reducible exact Below.refl _ _) | (with_reducible exact B1.out) | (with_reducible assumption) | ((with_reducible refine Below.setCell ?_ ?_ _); rotate_left; focus (simp; done)) | ((with_reducible refine Below.alloc ?_ ?_ _); rotate_left; focus (first | exact Nat.le_refl _ | exact B1.out.size | (simp; done) | (have := B1.out.size; simp; omega))) | (with_reducible refine Below.drew ?_))⟩
end Go.Proofs.YtmhpopkbmnhkkaaGreatDoor

/- joustref02: the reference's reader takes what may and what must stand there, names, numbers. -/
namespace Go.Proofs.YtmhpopkbmnhkkaaGreatDoor
open Go.RowKit Go.Lib

theorem RGoes.at (w w1 : World) (E : REnv) (a p : Nat) (h : RR w1 E (.ok a)) (k0 : Kept E.R w w1) (hp : a + 1 < E.n) : RGoes w E (.ok (a + 1)) (w1.setCell ⟨E.R, 1, none⟩ (.int .i64 ((a : Int) + 1))) := by
  obtain ⟨a', ha, hap⟩ := h.rd
  have e := hap a rfl
  subst e
  have k := (Kept.refl E.R w1).setCell (p := ⟨E.R, 1, none⟩) (.inl rfl) (.int .i64 ((a' : Int) + 1))
  exact ⟨⟨h.env.kept k, ⟨a' + 1, heap_set ha _, fun p hp => by cases hp; rfl⟩, hp⟩, k0.trans k⟩

def MayEnds (E : REnv) (s : RS) (b : Bool) (w : World) (e : Ending) (w' : World) : Prop := e = .returned (.bool b) ∧ RGoes w E (s.step b) w'
set_option maxHeartbeats 1000000 in
set_option maxRecDepth 100000 in
theorem rmay_any (E : REnv) (s : RS) (w : World) (tx : ByteArray) (b : Bool) (hw : wordy tx = true) (hb : sees E s tx = b) (h : RR w E s) :
    Calls Tryz.prog 83 #[.pointer (some ⟨E.R, 0, none⟩), .string tx] w (MayEnds E s b w) := by
  have hi := ris_any E s w tx b hw hb h
  have HI := Lib.hid hi
  have HH := Lib.hid h
  have hcap := h.env.fit
  unfold maxLen at hcap
  cases b with
  | false =>
    have hs : s.step false = s := by cases s <;> rfl
    unfold MayEnds
    rw [hs]
    clear h hi hb hs
    go_enter Tryz.func83, Tryz.ntmps83
    go_wp2_with fail
    refine HI.out.mono ?_
    rintro e w1 ⟨rfl, b1⟩
    have B1 := Lib.hid b1
    clear b1
    go_wp2
    go_ret
    exact ⟨rfl, rgoes_below HH.out B1.out⟩
  | true =>
    obtain ⟨p, rfl, ht⟩ := sees_yes hb
    have hk := wordy_tok (h.env.wf.all _ (tk_mem (show p < E.ts.length from h.fits))) hw ht
    have hp := rtok_ok h hk.1
    have HP := Lib.hid hp
    show Calls _ _ _ _ (fun e w' => e = .returned (.bool true) ∧ RGoes w E (.ok (p + 1)) w')
    have p1 : (p : Int) + 1 ≤ 9223372036854775807 := by omega
    clear h hi hb ht hk hw
    go_enter Tryz.func83, Tryz.ntmps83
    go_wp2_with fail
    refine HI.out.mono ?_
    rintro e w1 ⟨rfl, b1⟩
    have h1 := HH.out.below b1
    obtain ⟨a, ha, hap, c0, c1, c2, c3, c4, cf⟩ := h1.cells
    have e := hap p rfl
    subst e
    have f1 := cf 1
    have B1 := Lib.hid b1
    have hra := RGoes.at w w1 E a a h1 (Kept.of_below b1) HP.out
    have HA := Lib.hid hra
    clear b1 h1 ha hap c0 c2 c3 c4 cf hp hra
    go_wp2
    go_ret
    exact ⟨rfl, HA.out⟩

def TakeEnds (E : REnv) (s : RS) (tx : ByteArray) (w : World) (e : Ending) (w' : World) : Prop := e = .returned (.tuple #[]) ∧ ∃ s', Res (pMark E.ts tx) s () s' ∧ RGoes w E s' w'
set_option maxHeartbeats 1000000 in
set_option maxRecDepth 100000 in
theorem rtake_any (E : REnv) (s : RS) (w : World) (tx : ByteArray) (hw : wordy tx = true) (h : RR w E s) :
    Calls Tryz.prog 76 #[.pointer (some ⟨E.R, 0, none⟩), .string tx] w (TakeEnds E s tx w) := by
  have hcap := h.env.fit
  unfold maxLen at hcap
  have HH := Lib.hid h
  cases hb : sees E s tx with
  | true =>
    have hi := ris_any E s w tx true hw hb h
    have HI := Lib.hid hi
    obtain ⟨p, rfl, ht⟩ := sees_yes hb
    have hk := wordy_tok (h.env.wf.all _ (tk_mem (show p < E.ts.length from h.fits))) hw ht
    have hp := rtok_ok h hk.1
    have HP := Lib.hid hp
    have hr : Hid (Res (pMark E.ts tx) (.ok p) () (.ok (p + 1))) := Res.of_ok (by simp [pMark, ht])
    have p1 : (p : Int) + 1 ≤ 9223372036854775807 := by omega
    clear h hi hb ht hk hw
    go_enter Tryz.func76, Tryz.ntmps76
    go_wp2_with fail
    refine HI.out.mono ?_
    rintro e w1 ⟨rfl, b1⟩
    have h1 := HH.out.below b1
    obtain ⟨a, ha, hap, c0, c1, c2, c3, c4, cf⟩ := h1.cells
    have e := hap p rfl
    subst e
    have f1 := cf 1
    have hra := RGoes.at w w1 E a a h1 (Kept.of_below b1) HP.out
    have HA := Lib.hid hra
    clear b1 h1 ha hap c0 c2 c3 c4 cf hp hra
    go_wp2
    go_end0
    exact ⟨rfl, _, hr.out, HA.out⟩
  | false =>
    have hi := ris_any E s w tx false hw hb h
    have HI := Lib.hid hi
    have hq : Hid (∀ w1, Below w.heap.size w w1 → _) := fun w1 b1 => rfails_any E s w1 5 (by decide) (h.below b1)
    have hr : Hid (Res (pMark E.ts tx) s () (s.failR E 5)) := by
      cases s with
      | ok p => exact (Res.failR E 5 (.ok p) ()).congr (fun q hq => by cases hq; have := sees_no hb; simp [pMark, this])
      | bad x l c => rfl
    clear h hi hb hw
    go_enter Tryz.func76, Tryz.ntmps76
    go_wp2_with fail
    refine HI.out.mono ?_
    rintro e w1 ⟨rfl, b1⟩
    have B1 := Lib.hid b1
    clear b1
    go_wp2_with fail
    refine (hq.out w1 B1.out).mono ?_
    rintro e w2 ⟨rfl, g⟩
    have GG := Lib.hid g
    clear g
    go_wp2
    go_end0
    exact ⟨rfl, _, hr.out, GG.out.of_below B1.out⟩

def RNameEnds (E : REnv) (s : RS) (w : World) (e : Ending) (w' : World) : Prop := ∃ x s', e = .returned (.string x) ∧ Res (pName E.ts) s x s' ∧ RGoes w E s' w'
set_option maxHeartbeats 1000000 in
set_option maxRecDepth 100000 in
theorem rname_any (E : REnv) (s : RS) (w : World) (h : RR w E s) :
    Calls Tryz.prog 74 #[.pointer (some ⟨E.R, 0, none⟩)] w (RNameEnds E s w) := by
  have hnext := rnext_any E s w h
  have HN := Lib.hid hnext
  have HH := Lib.hid h
  have hcap := h.env.fit
  have hlt := h.lt
  unfold maxLen at hcap
  clear hnext
  by_cases hk : (E.tok s).kind = 1
  · cases s with
    | bad x l c => exact absurd hk (by simp [REnv.tok])
    | ok p =>
      have hk' : (tk E.ts p).kind = 1 := hk
      have hp := rtok_ok h (by omega)
      have HP := Lib.hid hp
      have hr : Hid (Res (pName E.ts) (.ok p) (tk E.ts p).text (.ok (p + 1))) := Res.of_ok (by simp [pName, hk'])
      have p1 : (p : Int) + 1 ≤ 9223372036854775807 := by omega
      have q1 : ((0 : Int) != 0) = false := rfl
      clear h hk
      simp only [REnv.tok] at HN
      generalize tk E.ts p = t at *
      obtain ⟨k, x, l, c⟩ := t
      simp only [] at hk'
      subst hk'
      go_enter Tryz.func74, Tryz.ntmps74
      go_wp2_with fail
      refine HN.out.mono ?_
      rintro e w1 ⟨rfl, b1⟩
      have h1 := HH.out.below b1
      obtain ⟨a, ha, hap, c0, c1, c2, c3, c4, cf⟩ := h1.cells
      have e := hap p rfl
      subst e
      have f1 := cf 1
      have hlt1 := h1.lt
      have B1 := Lib.hid b1
      have hra := RGoes.at w w1 E a a h1 (Kept.of_below b1) HP.out
      have HA := Lib.hid hra
      simp only [RS.e] at c2
      clear b1 h1 ha hap c0 c3 c4 cf hp hra
      go_wp2
      go_ret
      exact ⟨_, _, rfl, hr.out, HA.out.alloc _⟩
  · have hq : Hid (∀ w1, Below w.heap.size w w1 → _) := fun w1 b1 => rfails_any E s w1 5 (by decide) (h.below b1)
    have hr : Hid (Res (pName E.ts) s ⟨#[]⟩ (s.failR E 5)) := by
      cases s with
      | ok p => exact (Res.failR E 5 (.ok p) _).congr (fun q hq => by cases hq; have : (tk E.ts p).kind ≠ 1 := hk; simp [pName, this])
      | bad x l c => rfl
    clear h
    generalize E.tok s = t at *
    obtain ⟨k, x, l, c⟩ := t
    simp only [] at hk
    have q1 : ((k : Int) != 1) = true := by simp; omega
    clear hk
    go_enter Tryz.func74, Tryz.ntmps74
    go_wp2_with fail
    refine HN.out.mono ?_
    rintro e w1 ⟨rfl, b1⟩
    have B1 := Lib.hid b1
    clear b1
    go_wp2_with fail
    refine (hq.out _ (by repeat (first | (with_reducible exact Below.refl _ _) | (with_reducible exact B1.out) | (with_reducible assumption) | ((with_reducible refine Below.setCell ?_ ?_ _); rotate_left; focus (simp; done)) | ((with_reducible refine Below.alloc ?_ ?_ _); rotate_left; focus (first | exact Nat.le_refl _ | exact B1.out.size | (simp; done) | (have := B1.out.size; simp; omega))) | (with_reducible refine Below.drew ?_)))).mono ?_
    rintro e w2 ⟨rfl, g⟩
    have GG := Lib.hid g
    clear g
    go_wp2
    go_ret
    exact ⟨_, _, rfl, hr.out, GG.out.of_below (by repeat (first | (with_reducible exact Below.refl _ _) | (with_reducible exact B1.out) | (with_reducible assumption) | ((with_reducible refine Below.setCell ?_ ?_ _); rotate_left; focus (simp; done)) | ((with_reducible refine Below.alloc ?_ ?_ _); rotate_left; focus (first | exact Nat.le_refl _ | exact B1.out.size | (simp; done) | (have := B1.out.size; simp; omega))) | (with_reducible refine Below.drew ?_)))⟩

theorem valOf_step (l : List UInt8) (i : Nat) (h : i < l.length) : valOf (l.take (i + 1)) = 10 * valOf (l.take i) + (l[i].toNat - 48) := by
  unfold valOf
  rw [List.take_succ_eq_append_getElem h, List.foldl_append]
  rfl
theorem foldl_ge (l : List UInt8) : ∀ v : Nat, v ≤ l.foldl (fun v (b : UInt8) => 10 * v + (b.toNat - 48)) v := by
  induction l with
  | nil => intro v; exact Nat.le_refl _
  | cons b r ih =>
    intro v
    have := ih (10 * v + (b.toNat - 48))
    rw [List.foldl_cons]
    omega
theorem valOf_take_le (l : List UInt8) (i : Nat) : valOf (l.take i) ≤ valOf l := by
  have h : l.foldl (fun v (b : UInt8) => 10 * v + (b.toNat - 48)) 0 = (l.drop i).foldl (fun v (b : UInt8) => 10 * v + (b.toNat - 48)) ((l.take i).foldl (fun v (b : UInt8) => 10 * v + (b.toNat - 48)) 0) := by
    rw [← List.foldl_append, List.take_append_drop]
  unfold valOf
  rw [h]
  exact foldl_ge _ _

def RNumEnds (E : REnv) (s : RS) (w : World) (e : Ending) (w' : World) : Prop := ∃ v s', e = .returned (.int .i64 v) ∧ Res (pNum E.ts) s v s' ∧ RGoes w E s' w'
set_option maxHeartbeats 1000000 in
set_option maxRecDepth 100000 in
theorem rnum_any (E : REnv) (s : RS) (w : World) (h : RR w E s) :
    Calls Tryz.prog 75 #[.pointer (some ⟨E.R, 0, none⟩)] w (RNumEnds E s w) := by
  have hnext := rnext_any E s w h
  have HN := Lib.hid hnext
  have HH := Lib.hid h
  have hcap := h.env.fit
  have hlt := h.lt
  unfold maxLen at hcap
  clear hnext
  by_cases hk : (E.tok s).kind = 2
  · cases s with
    | bad x l c => exact absurd hk (by simp [REnv.tok])
    | ok p =>
      have hk' : (tk E.ts p).kind = 2 := hk
      have hp := rtok_ok h (by omega)
      have HP := Lib.hid hp
      have hwt := h.env.wf.all _ (tk_mem (show p < E.ts.length from h.fits))
      have hnum := hwt.num hk'
      have hsz := hwt.size
      have hr : Hid (Res (pNum E.ts) (.ok p) (valOf (tk E.ts p).text.data.toList : Int) (.ok (p + 1))) := Res.of_ok (by simp [pNum, hk'])
      have p1 : (p : Int) + 1 ≤ 9223372036854775807 := by omega
      have q1 : ((0 : Int) != 0) = false := rfl
      clear h hk hwt
      simp only [REnv.tok] at HN
      generalize tk E.ts p = t at *
      obtain ⟨k, x, l, c⟩ := t
      simp only [] at hk' hnum hr hsz
      subst hk'
      have HNu := Lib.hid hnum
      clear hnum
      go_enter Tryz.func75, Tryz.ntmps75
      go_wp2_with fail
      refine HN.out.mono ?_
      rintro e w1 ⟨rfl, b1⟩
      have h1 := HH.out.below b1
      obtain ⟨a, ha, hap, c0, c1, c2, c3, c4, cf⟩ := h1.cells
      have e := hap p rfl
      subst e
      have hlt1 := h1.lt
      have hG0 := Lib.hid (RGoes.alloc (rgoes_below HH.out b1) (.cells #[.int .u8 2, .string x, .int .i64 l, .int .i64 c] 103))
      simp only [RS.e] at c2
      clear b1 h1 ha hap c0 c1 c3 c4 cf hp
      go_wp2
      go_loopw [4, 5] (fun vv vp wr => ∃ (i : Nat), vv = .int .i64 (valOf (x.data.toList.take i) : Nat) ∧ vp = .int .i64 i ∧ i ≤ x.size ∧ RGoes w E (.ok a) wr ∧ wr.heap[w1.heap.size]? = some (.cells #[.int .u8 2, .string x, .int .i64 l, .int .i64 c] 103 (0, 0))) (fun _ vp _ => x.size - (RowKit.intOf vp).toNat)
      case atStart => exact ⟨0, rfl, rfl, Nat.zero_le _, hG0.out, heap_alloc_new _ _⟩
      case round =>
        obtain ⟨i, rfl, rfl, hi, gg, ht⟩ := hrel
        have t1 := cell_blk (i := 1) ht
        simp at t1
        have htl := heap_lt ht
        have GG := Lib.hid gg
        have HT := Lib.hid ht
        have hl : x.data.toList.length = x.size := by simp
        by_cases hlt3 : i < x.size
        · have hlt4 : i < x.data.toList.length := by omega
          have hst := valOf_step x.data.toList i hlt4
          have hmem := HNu.out.1 _ (List.getElem_mem hlt4)
          have hle := valOf_take_le x.data.toList (i + 1)
          have hmx := HNu.out.2
          have hxe : (x[i]'hlt3).toNat = (x.data.toList[i]'hlt4).toNat := by rfl
          rw [← hxe] at hst hmem
          have h48 : (48 : Int) ≤ ((x[i]'hlt3).toNat : Int) := by omega
          have h57 : ((x[i]'hlt3).toNat : Int) ≤ 57 := by omega
          have HS := Lib.hid hst
          have hv0 : valOf (x.data.toList.take i) ≤ 99999 := Nat.le_trans (valOf_take_le _ _) hmx
          clear hst hmem gg ht hle hmx hxe hl
          generalize hvv : valOf (x.data.toList.take i) = v at *
          clear hvv
          go_wp2
          go_roundw
          case rel => exact ⟨i + 1, (by rw [HS.out]; exact congrArg (Value.int .i64) (by omega)), by go_num, hlt3, GG.out, HT.out⟩
          case measure => simp [RowKit.intOf]; omega
        · have he : i = x.size := by omega
          subst he
          have hv : Hid (valOf (x.data.toList.take x.size) = valOf x.data.toList) := by unfold Hid; rw [List.take_of_length_le (by simp)]
          obtain ⟨a', ha', hap', d0, d1, d2, d3, d4, df⟩ := gg.rd.cells
          have e := hap' a rfl
          subst e
          have f1 := df 1
          have hra := RGoes.at w _ E a' a' gg.rd gg.kept HP.out
          have HA := Lib.hid hra
          clear ht gg ha' hap' d0 d2 d3 d4 df hra
          go_wp2
          go_ret
          exact ⟨_, _, rfl, by rw [hv.out]; exact hr.out, HA.out⟩
  · have hq : Hid (∀ w1, Below w.heap.size w w1 → _) := fun w1 b1 => rfails_any E s w1 5 (by decide) (h.below b1)
    have hr : Hid (Res (pNum E.ts) s 0 (s.failR E 5)) := by
      cases s with
      | ok p => exact (Res.failR E 5 (.ok p) _).congr (fun q hq => by cases hq; have : (tk E.ts p).kind ≠ 2 := hk; simp [pNum, this])
      | bad x l c => rfl
    clear h
    generalize E.tok s = t at *
    obtain ⟨k, x, l, c⟩ := t
    simp only [] at hk
    have q1 : ((k : Int) != 2) = true := by simp; omega
    clear hk
    go_enter Tryz.func75, Tryz.ntmps75
    go_wp2_with fail
    refine HN.out.mono ?_
    rintro e w1 ⟨rfl, b1⟩
    have B1 := Lib.hid b1
    clear b1
    go_wp2_with fail
    refine (hq.out _ (by repeat (first | (with_reducible exact Below.refl _ _) | (with_reducible exact B1.out) | (with_reducible assumption) | ((with_reducible refine Below.setCell ?_ ?_ _); rotate_left; focus (simp; done)) | ((with_reducible refine Below.alloc ?_ ?_ _); rotate_left; focus (first | exact Nat.le_refl _ | exact B1.out.size | (simp; done) | (have := B1.out.size; simp; omega))) | (with_reducible refine Below.drew ?_)))).mono ?_
    rintro e w2 ⟨rfl, g⟩
    have GG := Lib.hid g
    clear g
    go_wp2
    go_ret
    exact ⟨_, _, rfl, hr.out, GG.out.of_below (by repeat (first | (with_reducible exact Below.refl _ _) | (with_reducible exact B1.out) | (with_reducible assumption) | ((with_reducible refine Below.setCell ?_ ?_ _); rotate_left; focus (simp; done)) | ((with_reducible refine Below.alloc ?_ ?_ _); rotate_left; focus (first | exact Nat.le_refl _ | exact B1.out.size | (simp; done) | (have := B1.out.size; simp; omega))) | (with_reducible refine Below.drew ?_)))⟩
end Go.Proofs.YtmhpopkbmnhkkaaGreatDoor
