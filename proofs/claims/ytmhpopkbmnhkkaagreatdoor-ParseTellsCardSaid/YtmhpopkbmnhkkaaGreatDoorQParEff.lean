import Derived.Test.YtmhpopkbmnhkkaaGreatDoorQParMNeeds
import Derived.Test.YtmhpopkbmnhkkaaGreatDoorQParMSteps
/- Layer 2 (parse): an effect is read: what its parts share. -/
namespace Go.Proofs.YtmhpopkbmnhkkaaGreatDoor
open Go.RowKit Go.Lib

theorem Res.opt_yes {α : Type} {ts : List Tok} {tx : ByteArray} {f : Par α} {z x : α} {s s1 s2 : RS} (h1 : Res (pSkip ts tx) s true s1) (h2 : Res f s1 x s2) : Res (pOpt ts tx f z) s x s2 := by
  cases s with
  | bad e l c => simp only [Res] at h1 ⊢; subst h1; exact h2
  | ok p =>
    simp only [Res, pSkip, pOpt] at h1 ⊢
    by_cases ht : (tk ts p).text = tx
    · rw [if_pos ht] at h1 ⊢
      obtain ⟨-, rfl⟩ := h1
      exact h2
    · rw [if_neg ht] at h1
      exact absurd h1.1 (by decide)
theorem Res.opt_no {α : Type} {ts : List Tok} {tx : ByteArray} {f : Par α} {z : α} {s s1 : RS} (h1 : Res (pSkip ts tx) s false s1) : Res (pOpt ts tx f z) s z s1 := by
  cases s with
  | bad e l c => exact h1
  | ok p =>
    simp only [Res, pSkip, pOpt] at h1 ⊢
    by_cases ht : (tk ts p).text = tx
    · rw [if_pos ht] at h1
      exact absurd h1.1 (by decide)
    · rw [if_neg ht] at h1 ⊢
      exact ⟨rfl, h1.2⟩

def SkipEnds (E : Env) (s : RS) (d : Int) (tx : ByteArray) (w : World) (e : Ending) (w' : World) : Prop := ∃ (b : Bool) (s' : RS), e = .returned (.bool b) ∧ Res (pSkip E.ts tx) s b s' ∧ Goes w E s' d w'
theorem skip_any (E : Env) (s : RS) (d : Int) (w : World) (tx : ByteArray) (hne : tx ≠ ⟨#[]⟩) (h : Rd w E s d) :
    Calls Tryz.prog 80 #[.pointer (some ⟨E.R, 0, none⟩), .string tx] w (SkipEnds E s d tx w) := by
  rcases sees_or h tx hne with ⟨p, rfl, hp, ht⟩ | ht
  · exact (skip_yes E p d w tx h hp ht).mono fun e w' ⟨he, g⟩ => ⟨true, _, he, Res.of_ok (by simp [pSkip, ht]), g⟩
  · exact (skip_no E s d w tx h ht).mono fun e w' ⟨he, b⟩ => ⟨false, s, he, by
      cases s with
      | ok p => exact Res.of_ok (by have h' : (tk E.ts p).text ≠ tx := ht; simp [pSkip, h'])
      | bad x l c => rfl, goes_below h b⟩

/-- What an effect's variable holds. -/
structure EfC where
  m : Nat
  ev : Nat
  sd : Nat
  ca : Option Addr
  cn : Nat
  cc : Nat
  pay : Int
  dr : Int
  tr : Bool
  pk : Int
  k1 : Nat
  k2 : Nat
  k3 : Nat
  va : Option Addr
  vn : Nat
  vc : Nat
def EfC.cells (x : EfC) : Array Value := #[.int .u8 x.m, .int .u8 x.ev, .int .u8 x.sd, .slice x.ca x.cn x.cc, .int .i64 x.pay, .int .i64 x.dr, .bool x.tr, .int .i64 x.pk, .int .u8 x.k1, .int .u8 x.k2, .int .u8 x.k3, .slice x.va x.vn x.vc]
def EfC.zero : EfC := ⟨0, 0, 0, none, 0, 0, 0, 0, false, 0, 0, 0, 0, none, 0, 0⟩
structure EfMid (E : Env) (w W : World) (s : RS) (x : EfC) : Prop where
  goes : Goes w E s 0 W
  res : W.heap[w.heap.size]? = some (.cells EfC.zero.cells 43 (0, 0))
  loc : W.heap[w.heap.size + 1]? = some (.cells x.cells 43 (0, 0))
section
variable {E : Env} {w W W' : World} {s s' : RS} {x : EfC}
theorem EfMid.lt (h : EfMid E w W s x) : w.heap.size + 1 < W.heap.size := heap_lt h.loc
theorem EfMid.call (h : EfMid E w W s x) (he : EnvAt w E ∧ E.R < w.heap.size) (g : Goes W E s' 0 W') : EfMid E w W' s' x :=
  ⟨h.goes.trans g, g.kept.heap (by have := he.2; omega) h.res, g.kept.heap (by have := he.2; omega) h.loc⟩
theorem EfMid.below (h : EfMid E w W s x) (b : Below W.heap.size W W') : EfMid E w W' s x := ⟨h.goes.below b, (b.block _ (heap_lt h.res)).trans h.res, (b.block _ (heap_lt h.loc)).trans h.loc⟩
theorem EfMid.set (h : EfMid E w W s x) (he : EnvAt w E ∧ E.R < w.heap.size) (i : Nat) (u : Value) (x' : EfC) (hx : x.cells.setIfInBounds i u = x'.cells) : EfMid E w (W.setCell ⟨w.heap.size + 1, i, none⟩ u) s x' :=
  ⟨h.goes.store he (by simp) _, heap_other h.res (by simp), heap_set_to h.loc hx⟩
theorem EfMid.cell (h : EfMid E w W s x) (i : Nat) (v : Value) (hv : x.cells[i]? = some v) : W.cell? ⟨w.heap.size + 1, i, none⟩ = some v := by rw [cell_blk h.loc, hv]
theorem EfMid.free (h : EfMid E w W s x) (i : Nat) : W.frozen? ⟨w.heap.size + 1, i, none⟩ = false := free_blk h.loc
end
end Go.Proofs.YtmhpopkbmnhkkaaGreatDoor
