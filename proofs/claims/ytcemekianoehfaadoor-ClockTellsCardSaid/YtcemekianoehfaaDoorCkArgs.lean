/- The laws' arguments, opened: a clock by value, numbers; the table, as the walks want it. (Made by gen/mkck.py.) -/
import Derived.Test.YtcemekianoehfaaDoorCkText
import Derived.Deep.Slices
import Derived.Deep.Fields
import Derived.ChangeSame
import Derived.ProofKit
import Derived.HandedShaped
import Derived.OpenShut
import Derived.Carry
import Derived.Shelf.Abstract
import Derived.LaidLaws
import Derived.Test.YtcemekianoehfaaDoorCards
import Derived.Test.YtcemekianoehfaaDoorTie
import Derived.PinnedBridge
import Derived.Lay
import Derived.LaidOnce
import Derived.SevenTiedAt
import Derived.Lib.LaidU8
namespace Go.Proofs.YtcemekianoehfaaDoor
open Go.RowKit Go.Shelf Go.Lib
open Go.ChangeShapes Go.WideShapes Go.Deep

theorem own : ownKnob Tryd.prog.godebug = none := by kernel_rfl
theorem laidOut : laidOutB Tryd.prog = true := by kernel_rfl
theorem trodAll_below {H : Type} {enc : TypeId × Value → H} {P : Program} {W W' : World} (hl : laidOutB P = true) (hb : Below W.heap.size W W') : ∀ (ts : List TypeId) (vs : List Value) (ds : List (DataW H)) (ps : List MemPlace),
    (ts.all fun t => P.readableRec t && decide (t < P.types.size)) = true → DataW.TrodAll enc P W 0 (fun _ => true) true ts vs ds ps → (∀ x ∈ ps, x.block < W.heap.size) → DataW.TrodAll enc P W' 0 (fun b => decide (b < W.heap.size)) true ts vs ds ps
  | [], vs, ds, ps, _, h, _ => by
    cases vs <;> cases ds <;> simp [DataW.TrodAll] at h ⊢
    exact h
  | t :: ts, vs, ds, ps, hr, h, hlt => by
    obtain ⟨v, vs', d, ds', p, q, rfl, rfl, rfl, h1, h2⟩ := trodAll_cons h
    simp only [List.all_cons, Bool.and_eq_true, decide_eq_true_eq] at hr
    exact ⟨p, q, Below.trod hl hr.1.1 hr.1.2 h1 hb fun x hx => hlt x (List.mem_append.2 (.inl hx)), trodAll_below hl hb ts vs' ds' q hr.2 h2 (fun x hx => hlt x (List.mem_append.2 (.inr hx))), rfl⟩

section
variable {H : Type} {enc : TypeId × Value → H} {w : World} {r : Reach} {b0 : Nat}
theorem rd_u8b {n : Nat} {c : Value} {y : DataW H × List MemPlace} (h : DataW.trod enc Tryd.prog w 0 (fun _ => true) true n 5 [c] = some y) : ∃ k : Nat, c = .int .u8 k ∧ k < 256 := by
  obtain ⟨z, e, _, w1⟩ := DataW.trod_int Tryd.underlying5 h
  cases e
  have e0 : IntKind.u8.min = 0 := rfl
  have e1 : IntKind.u8.max = 255 := rfl
  have hz : (0 : Int) ≤ z ∧ z ≤ 255 := by simp [Lit.wf] at w1; omega
  exact ⟨z.toNat, by rw [show ((z.toNat : Nat) : Int) = z by omega], by omega⟩
theorem rd_int {n : Nat} {c : Value} {y : DataW H × List MemPlace} (h : DataW.trod enc Tryd.prog w 0 (fun _ => true) true n 3 [c] = some y) : ∃ z : Int, c = .int .i64 z := by
  obtain ⟨z, e, _, _⟩ := DataW.trod_int Tryd.underlying3 h
  cases e; exact ⟨z, rfl⟩
theorem rd_bool {n : Nat} {c : Value} {y : DataW H × List MemPlace} (h : DataW.trod enc Tryd.prog w 0 (fun _ => true) true n 4 [c] = some y) : ∃ b : Bool, c = .bool b := by
  obtain ⟨z, e, _⟩ := DataW.trod_bool Tryd.underlying4 h
  cases e; exact ⟨z, rfl⟩
theorem c_int : Tryd.prog.cellsOf 3 = 1 := by kernel_rfl
theorem c_u8 : Tryd.prog.cellsOf 5 = 1 := by kernel_rfl
theorem c_bool : Tryd.prog.cellsOf 4 = 1 := by kernel_rfl
theorem c_two : Tryd.prog.cellsOf 22 = 2 := by kernel_rfl
theorem c_clock : Tryd.prog.cellsOf 24 = 8 := by kernel_rfl
set_option maxRecDepth 100000 in
theorem rd_two {n : Nat} {c0 c1 : Value} {y : DataW H × List MemPlace} (h : DataW.trod enc Tryd.prog w 0 (fun _ => true) true n 22 [c0, c1] = some y) : ∃ a b : Int, c0 = .int .i64 a ∧ c1 = .int .i64 b := by
  obtain ⟨xs, m, _, _, _, hlen, hg⟩ := DataW.trod_array Tryd.underlying22 h
  match xs, hlen with
  | [y0, y1], _ =>
    have g0 := hg 0 (by omega)
    have g1 := hg 1 (by omega)
    rw [c_int] at g0 g1
    obtain ⟨a, rfl⟩ := rd_int (y := y0) (by simpa using g0)
    obtain ⟨b, rfl⟩ := rd_int (y := y1) (by simpa using g1)
    exact ⟨a, b, rfl, rfl⟩
set_option maxRecDepth 100000 in
theorem rd_ck {v : Value} {d : DataW H} {p : List MemPlace} (hv : Value.okWide Tryd.prog w r b0 24 v) (h : DataW.Trod enc Tryd.prog w 0 (fun _ => true) true 24 v d p) :
    ∃ (a b m k : Int) (h : Nat) (on : Bool) (s : Int) (f : Nat), v = ckV a b m k h on s f ∧ h < 256 ∧ f < 256 := by
  obtain ⟨cs, rfl, hsz⟩ := okWide_struct Tryd.underlying24 hv
  obtain ⟨l⟩ := cs
  obtain ⟨fuel, hf⟩ := h
  obtain ⟨ys, n, _, hy, _, hyl, hg⟩ := DataW.trod_struct Tryd.underlying24 hf
  match l, hsz.trans c_clock with
  | [c0, c1, c2, c3, c4, c5, c6, c7], _ =>
    match ys, hyl with
    | [y0, y1, y2, y3, y4, y5, y6], _ =>
      obtain ⟨a, b, rfl, rfl⟩ := rd_two (c0 := c0) (c1 := c1) (by have := hg 0 _ rfl; simpa [Value.cells, c_two] using this)
      obtain ⟨m, rfl⟩ := rd_int (by have := hg 1 _ rfl; simpa [Value.cells, c_int] using this)
      obtain ⟨k, rfl⟩ := rd_int (by have := hg 2 _ rfl; simpa [Value.cells, c_int] using this)
      obtain ⟨h, rfl, hh⟩ := rd_u8b (by have := hg 3 _ rfl; simpa [Value.cells, c_u8] using this)
      obtain ⟨on, rfl⟩ := rd_bool (by have := hg 4 _ rfl; simpa [Value.cells, c_bool] using this)
      obtain ⟨s, rfl⟩ := rd_int (by have := hg 5 _ rfl; simpa [Value.cells, c_int] using this)
      obtain ⟨f, rfl, hff⟩ := rd_u8b (by have := hg 6 _ rfl; simpa [Value.cells, c_u8] using this)
      exact ⟨a, b, m, k, h, on, s, f, rfl, hh, hff⟩
theorem rd_u8v {v : Value} {d : DataW H} {p : List MemPlace} (hv : Value.okWide Tryd.prog w r b0 5 v) (h : DataW.Trod enc Tryd.prog w 0 (fun _ => true) true 5 v d p) : ∃ k : Nat, v = .int .u8 k ∧ k < 256 := by
  obtain ⟨z, rfl, -, -, wz⟩ := open_int Tryd.underlying5 hv h
  have e0 : IntKind.u8.min = 0 := rfl
  have e1 : IntKind.u8.max = 255 := rfl
  have hz : (0 : Int) ≤ z ∧ z ≤ 255 := by simp [Lit.wf] at wz; omega
  exact ⟨z.toNat, by rw [show ((z.toNat : Nat) : Int) = z by omega], by omega⟩
end
theorem pow_eq : (Rows.laid_internal_strconv_uint64pow10 : DataW Unit) = tabData .u64 pow10Tab := by kernel_rfl
def laidAll : List (String × DataW Unit) := Rows.clockTellsRow.laid
theorem ptab_of_laid {W : World} (hL : laidMet Tryd.prog laidAll W) : PTab W := by
  have hpow : VarReads Tryd.prog W "internal/strconv.uint64pow10" (tabData .u64 pow10Tab) := by rw [← pow_eq]; exact Lib.laidMet.reads hL (.tail _ (.tail _ (.head _)))
  obtain ⟨g', t', cs, fuel, p, hg', ht', hvar, hd⟩ := hpow
  obtain rfl := Option.some.inj (g_pow.symm.trans hg')
  obtain rfl := Option.some.inj ((show (Tryd.prog.globals[0]?).map (·.type) = some 57 by kernel_rfl).symm.trans ht')
  refine ⟨?_, ?_⟩
  rotate_left
  · rcases Nat.lt_or_ge 0 W.heap.size with h | h
    · exact h
    · have hn : W.heap[0]? = none := Array.getElem?_eq_none h
      simp [World.var?, g_pow, hn] at hvar
  unfold Lib.TabIs
  rw [hvar, ← cells_of_tab (n := 20) (e := 49) (by kernel_rfl) (by kernel_rfl) (by kernel_rfl) (by kernel_rfl) hd]
end Go.Proofs.YtcemekianoehfaaDoor
