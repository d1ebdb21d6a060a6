/- Lists of tokens in memory; what a call that answers one leaves. -/
import Derived.Test.YtanbkgifjlobgaaDoorTokens
namespace Go.Proofs.YtanbkgifjlobgaaDoor
open Go.RowKit Go.Lib

/-- A slice of tokens, in memory. -/
def HasToks (w : World) (v : Value) (ts : List Tok) : Prop := ∃ base, w.ownsRow base 57 4 v ts.length (toksCells ts)
theorem HasToks.later {w w' : World} {v : Value} {ts : List Tok} (h : HasToks w v ts) (hb : Below w.heap.size w w') : HasToks w' v ts := h.imp fun _ h => ownsRow_later h hb

theorem flat4 (ts : List Tok) : ∀ (k j : Nat) (t : Tok), ts[k]? = some t → j < 4 → (toksCells ts)[k * 4 + j]? = t.cells[j]? := by
  induction ts with
  | nil => intro k j t h; simp at h
  | cons x l ih =>
    intro k j t h hj
    have e : toksCells (x :: l) = x.cells ++ toksCells l := by simp [toksCells]
    have hx : x.cells.length = 4 := rfl
    rw [e]
    cases k with
    | zero =>
      simp at h
      subst h
      rw [List.getElem?_append_left (by omega)]
      simp
    | succ k =>
      simp at h
      rw [List.getElem?_append_right (by omega), ← ih k j t h hj]
      congr 1
      omega

/-- A slice of tokens is nil and empty, or its cells lie in one block. -/
theorem HasToks.open {w : World} {v : Value} {ts : List Tok} (h : HasToks w v ts) :
    (v = .slice none 0 0 ∧ ts = []) ∨ ∃ g cap, v = .slice (some ⟨g, 0, none⟩) ts.length cap ∧ ts.length ≤ cap ∧ cap ≤ maxLen ∧
      ∀ k t, ts[k]? = some t → w.cell? ⟨g, k * 4, none⟩ = some (.int .u8 t.kind) ∧ w.cell? ⟨g, k * 4 + 1, none⟩ = some (.string t.text) ∧ w.cell? ⟨g, k * 4 + 2, none⟩ = some (.int .i64 t.spot.1) ∧ w.cell? ⟨g, k * 4 + 3, none⟩ = some (.int .i64 t.spot.2) := by
  obtain ⟨base, hl, h⟩ := h
  rcases h with ⟨hv, hn⟩ | ⟨g, cap, cur, hv, _, hh, hc, hm, _, ht⟩
  · exact .inl ⟨hv, List.eq_nil_of_length_eq_zero hn⟩
  · refine .inr ⟨g, cap, hv, hc, hm, fun k t hk => ?_⟩
    have hlt : k < ts.length := (List.getElem?_eq_some_iff.1 hk).1
    have hcell : ∀ j, j < 4 → w.cell? ⟨g, k * 4 + j, none⟩ = t.cells[j]? := fun j hj => by
      rw [cell_blk hh, ← flat4 ts k j t hk hj, ← ht, List.getElem?_take_of_lt (by omega)]
      simp
    exact ⟨hcell 0 (by omega), hcell 1 (by omega), hcell 2 (by omega), hcell 3 (by omega)⟩

def ToksAt (w : World) (ts : List Tok) (er : Int) (at_ : Int × Int) (e : Ending) (w' : World) : Prop :=
  ∃ v, e = .returned (.tuple #[v, .agg #[.int .i64 er, .int .i64 at_.1, .int .i64 at_.2]]) ∧ HasToks w' v ts ∧ Below w.heap.size w w'
theorem Answers.at_ {w w' : World} {r : Toks} {e : Ending} (h : Answers w r e w') : ToksAt w r.1 r.2.1 r.2.2 e w' := by
  obtain ⟨v, he, ho, hb⟩ := h
  exact ⟨v, he, ⟨_, ho⟩, hb⟩
theorem later_trans {a b c : World} (h : Below a.heap.size a b) (k : Below b.heap.size b c) : Below a.heap.size a c := h.trans (k.mono h.size)
theorem later_alloc {a b : World} (h : Below a.heap.size a b) (o : Obj) : Below a.heap.size a (b.alloc o) := h.alloc h.size o
theorem Tabs.alloc {w : World} (h : Tabs w) (o : Obj) : Tabs (w.alloc o) := h.below ((Below.refl _ _).alloc (Nat.le_refl _) _)

theorem made_toks (w : World) (ts : List Tok) (h : ts.length ≤ maxLen) : HasToks (w.alloc (.cells (toksCells ts).toArray 57)) (.slice (some ⟨w.heap.size, 0, none⟩) ts.length ts.length) ts := by
  refine ⟨w.heap.size, toksCells_len ts, .inr ⟨w.heap.size, ts.length, (toksCells ts).toArray, rfl, Nat.le_refl _, heap_alloc_new w _, Nat.le_refl _, h, ?_, ?_⟩⟩
  · simp [toksCells_len]
  · rw [← toksCells_len]; simp

end Go.Proofs.YtanbkgifjlobgaaDoor
