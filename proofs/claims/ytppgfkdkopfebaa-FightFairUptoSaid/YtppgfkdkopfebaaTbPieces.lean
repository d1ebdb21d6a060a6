/- Pieces and tables, plain and in memory. -/
import Derived.Test.YtppgfkdkopfebaaTbIn
namespace Go.Proofs.Ytppgfkdkopfebaa
open Go.RowKit Go.Lib

structure Pc where
  df : Int
  ak : Int
  gd : Int
  ow : Nat
  hs : Nat
  zn : Nat
  pl : Int
  up : Bool
  lw : Bool
  sc : Int
  us : Nat
  sk : Bool
  tu : Bool
  bo : Int
def pcV (p : Pc) : List Value := [.int .i64 p.df, .int .i64 p.ak, .int .i64 p.gd, .int .u8 p.ow, .int .u8 p.hs, .int .u8 p.zn, .int .i64 p.pl, .bool p.up, .bool p.lw, .int .i64 p.sc, .int .u8 p.us, .bool p.sk, .bool p.tu, .int .i64 p.bo]
def PcIn (_ : World) (c : List Value) (p : Pc) : Prop := c = pcV p
theorem PcIn.stays : Stays PcIn := fun _ _ _ _ h _ => h

/-- A table, but for what its lists hold. -/
structure Tb where
  qk : Option Addr
  nk : Nat
  ck : Nat
  qp : Option Addr
  np : Nat
  cp : Nat
  l0 : Int
  l1 : Int
  tn : Int
  py : Nat
  mo : Int
  qe : Option Addr
  ne : Nat
  ce : Nat
  b0 : Bool
  b1 : Bool
def Tb.row (t : Tb) : Array Value := #[.slice t.qk t.nk t.ck, .slice t.qp t.np t.cp, .int .i64 t.l0, .int .i64 t.l1, .int .i64 t.tn, .int .u8 t.py, .int .i64 t.mo, .slice t.qe t.ne t.ce, .bool t.b0, .bool t.b1]
/-- What a table's lists hold: kinds, pieces. -/
structure TabIn (w : World) (t : Tb) (xs : List Cd) (ps : List Pc) : Prop where
  kinds : ∃ D, RowIn w 6 0 (CdIn 0 D) (.slice t.qk t.nk t.ck) xs
  pieces : RowIn w 14 0 PcIn (.slice t.qp t.np t.cp) ps
  few : xs.length ≤ 140737488355328 ∧ ps.length ≤ 140737488355328
theorem TabIn.below {w w' : World} {t : Tb} {xs : List Cd} {ps : List Pc} (h : TabIn w t xs ps) (hb : Below w.heap.size w w') : TabIn w' t xs ps :=
  ⟨h.kinds.imp fun D h => h.below (CdIn.stays 0 D) hb, h.pieces.below PcIn.stays hb, h.few⟩
theorem TabIn.nk {w : World} {t : Tb} {xs : List Cd} {ps : List Pc} (h : TabIn w t xs ps) : t.nk = xs.length ∧ xs.length ≤ 140737488355328 := by
  obtain ⟨D, q, c, hv, hl, -⟩ := h.kinds
  simp only [Value.slice.injEq] at hv
  exact ⟨hv.2.1, h.few.1⟩
theorem TabIn.np {w : World} {t : Tb} {xs : List Cd} {ps : List Pc} (h : TabIn w t xs ps) : t.np = ps.length ∧ ps.length ≤ 140737488355328 := by
  obtain ⟨q, c, hv, hl, -⟩ := h.pieces
  simp only [Value.slice.injEq] at hv
  exact ⟨hv.2.1, h.few.2⟩
/-- A piece's cells. -/
theorem TabIn.piece {w : World} {t : Tb} {xs : List Cd} {ps : List Pc} (h : TabIn w t xs ps) {i : Nat} {p : Pc} (hi : ps[i]? = some p) :
    ∃ g o, t.qp = some ⟨g, o, none⟩ ∧ g < w.heap.size ∧ ∀ j u, (pcV p)[j]? = some u → w.cell? ⟨g, o + i * 14 + j, none⟩ = some u := by
  obtain ⟨q, c, hv, hl, -, hx⟩ := h.pieces
  obtain ⟨g, o, hq, cs, -, hp, hc⟩ := hx i p hi
  simp only [Value.slice.injEq] at hv
  rw [← hv.1] at hq
  cases hp
  have h0 := World.block_lt_of_cell? _ _ (hc 0 _ rfl)
  exact ⟨g, o, hq, h0, hc⟩
/-- A kind's second cell. -/
theorem TabIn.kind {w : World} {t : Tb} {xs : List Cd} {ps : List Pc} (h : TabIn w t xs ps) {i : Nat} {x : Cd} (hi : xs[i]? = some x) :
    ∃ g o, t.qk = some ⟨g, o, none⟩ ∧ g < w.heap.size ∧ w.cell? ⟨g, o + i * 6 + 1, none⟩ = some (.int .u8 x.kind) := by
  obtain ⟨D, q, c, hv, hl, -, hx⟩ := h.kinds
  obtain ⟨g, o, hq, cs, -, ⟨ve, hp, -⟩, hc⟩ := hx i x hi
  simp only [Value.slice.injEq] at hv
  rw [← hv.1] at hq
  subst hp
  have h0 := World.block_lt_of_cell? _ _ (hc 0 _ rfl)
  exact ⟨g, o, hq, h0, hc 1 _ rfl⟩

/-- The kind of a piece of such a Def. -/
def kindI (xs : List Cd) (d : Int) : Nat := if d < 0 then 0 else match xs[d.toNat]? with
  | some c => c.kind
  | none => 0
theorem kindI_neg {xs : List Cd} {d : Int} (h : d < 0) : kindI xs d = 0 := if_pos h
theorem kindI_out {xs : List Cd} {d : Int} (h : (xs.length : Int) ≤ d) : kindI xs d = 0 := by
  unfold kindI
  rw [List.getElem?_eq_none (by omega)]
  split <;> rfl
theorem kindI_in {xs : List Cd} {k : Nat} {x : Cd} (h : xs[k]? = some x) : kindI xs (k : Int) = x.kind := by
  unfold kindI
  rw [if_neg (by omega), Int.toNat_natCast, h]
end Go.Proofs.Ytppgfkdkopfebaa
