/- Lists of numbers in memory: those that came in, those of the own; whether two are the same. -/
import Derived.Test.YtdhefefhipdlcaaMxSeed
import Derived.IntWalk
import Derived.Sort.Row
namespace Go.Proofs.Ytdhefefhipdlcaa
open Go.RowKit Go.Lib

/-- Numbers in memory, behind a slice's address. -/
def IntsAt (w : World) (p : Option Addr) (xs : List Int) : Prop := ∀ (i : Nat) (x : Int), xs[i]? = some x → ∃ a, p = some a ∧ w.cell? (a.add i) = some (.int .i64 x)
theorem IntsAt.nil (w : World) (p : Option Addr) : IntsAt w p [] := fun i x h => by simp at h
theorem IntsAt.below {w w' : World} {p : Option Addr} {xs : List Int} (h : IntsAt w p xs) (hb : Below w.heap.size w w') : IntsAt w' p xs := fun i x hx => by
  obtain ⟨a, hp, hc⟩ := h i x hx
  exact ⟨a, hp, by rw [World.cell?_of_block (w := w) (hb.block _ (World.block_lt_of_cell? _ _ hc))]; exact hc⟩
theorem IntsAt.drop {w : World} {a : Addr} {xs : List Int} (h : IntsAt w (some a) xs) (k : Nat) : IntsAt w (some (a.add k)) (xs.drop k) := fun i x hx => by
  rw [List.getElem?_drop] at hx
  obtain ⟨b, hp, hc⟩ := h _ x hx
  cases hp
  refine ⟨_, rfl, ?_⟩
  have e : (a.add k).add i = a.add (k + i) := by
    unfold Addr.add
    by_cases hi : k = 0 <;> by_cases hj : i = 0 <;> simp [hi, hj, Nat.add_assoc]
  rw [e]; exact hc

def sameB (xs ys : List Int) : Bool := decide (xs = ys)
theorem same_len {xs ys : List Int} (h : xs.length ≠ ys.length) : sameB xs ys = false := by
  unfold sameB; simp only [decide_eq_false_iff_not]; intro e; exact h (by rw [e])
theorem same_all {xs ys : List Int} (hl : xs.length = ys.length) (h : ∀ j, j < xs.length → xs[j]? = ys[j]?) : sameB xs ys = true := by
  unfold sameB
  simp only [decide_eq_true_eq]
  apply List.ext_getElem?
  intro i
  by_cases hi : i < xs.length
  · exact h i hi
  · rw [List.getElem?_eq_none (by omega), List.getElem?_eq_none (by omega)]
theorem same_not {xs ys : List Int} {j : Nat} {x y : Int} (hx : xs[j]? = some x) (hy : ys[j]? = some y) (h : x ≠ y) : sameB xs ys = false := by
  unfold sameB; simp only [decide_eq_false_iff_not]; intro e; rw [e, hy] at hx; exact h (by cases hx; rfl)
theorem ret_b {a b : Bool} (h : a = b) : Ending.returned (.bool a) = .returned (.bool b) := by rw [h]

/-- A number as a value. -/
abbrev iv (x : Int) : Value := .int .i64 x
/-- A row of numbers of the own, from a block's beginning. -/
def IG (w : World) (g cap : Nat) (xs : List Int) : Prop := ∃ cur : Array Value, w.heap[g]? = some (.cells cur 3 (0, 0)) ∧ cur.size = cap ∧ xs.length ≤ cap ∧ cap ≤ maxLen ∧ cur.toList.take xs.length = xs.map iv
/-- A list of numbers of the own. -/
def IL (w : World) (B : Nat) (v : Value) (xs : List Int) : Prop := w.ownsRow B 3 1 v xs.length (xs.map iv)
section
variable {w w' : World} {g cap B : Nat} {v : Value} {xs : List Int}
theorem IG.cell (h : IG w g cap xs) {i : Nat} {x : Int} (hx : xs[i]? = some x) : w.cell? ⟨g, i, none⟩ = some (iv x) := by
  obtain ⟨cur, hb, hs, hl, -, ht⟩ := h
  have hi := (List.getElem?_eq_some_iff.1 hx).1
  have h1 : (cur.toList.take xs.length)[i]? = (xs.map iv)[i]? := by rw [ht]
  rw [List.getElem?_take_of_lt hi, List.getElem?_map, hx] at h1
  rw [cell_blk hb]
  simpa using h1
theorem IG.free (h : IG w g cap xs) (i : Nat) : w.frozen? ⟨g, i, none⟩ = false := by
  obtain ⟨cur, hb, -⟩ := h
  exact free_blk hb
theorem IG.lt (h : IG w g cap xs) : g < w.heap.size := by
  obtain ⟨cur, hb, -⟩ := h
  exact heap_lt hb
theorem IG.same (h : IG w g cap xs) (hb : w'.heap[g]? = w.heap[g]?) : IG w' g cap xs := by
  obtain ⟨cur, h1, r⟩ := h
  exact ⟨cur, hb.trans h1, r⟩
theorem IG.drew (h : IG w g cap xs) : IG w.drew g cap xs := h.same rfl
theorem IG.below (h : IG w g cap xs) (hb : Below w.heap.size w w') : IG w' g cap xs := h.same (hb.block _ h.lt)
theorem IG.far (h : IG w g cap xs) {a : Addr} (hne : g ≠ a.block) (u : Value) : IG (w.setCell a u) g cap xs := h.same (heap_set_far hne u)
theorem IG.set (h : IG w g cap xs) (i : Nat) (x : Int) : IG (w.setCell ⟨g, i, none⟩ (iv x)) g cap (xs.set i x) := by
  obtain ⟨cur, hb, hs, hl, hm, ht⟩ := h
  refine ⟨_, heap_set hb (iv x), by simp [hs], by simpa using hl, hm, ?_⟩
  rw [List.length_set, Array.toList_setIfInBounds, List.take_set, ht, List.map_set]
theorem IG.le (h : IG w g cap xs) : xs.length ≤ cap ∧ cap ≤ maxLen := by
  obtain ⟨cur, -, -, h1, h2, -⟩ := h
  exact ⟨h1, h2⟩
theorem IL.nil (w : World) (B : Nat) : IL w B (.slice none 0 0) [] := ⟨rfl, .inl ⟨rfl, rfl⟩⟩
theorem IG.list (h : IG w g cap xs) (hB : B ≤ g) : IL w B (.slice (some ⟨g, 0, none⟩) xs.length cap) xs := by
  obtain ⟨cur, hb, hs, hl, hm, ht⟩ := h
  exact ⟨by simp, .inr ⟨g, cap, cur, rfl, hB, hb, hl, hm, by simpa using hs, by simpa using ht⟩⟩
theorem IL.form (h : IL w B v xs) : (v = .slice none 0 0 ∧ xs = []) ∨ ∃ g cap, v = .slice (some ⟨g, 0, none⟩) xs.length cap ∧ B ≤ g ∧ IG w g cap xs := by
  rcases h.2 with ⟨h1, h2⟩ | ⟨g, cap, cur, hv, hB, hb, hl, hm, hs, ht⟩
  · exact .inl ⟨h1, List.length_eq_zero_iff.1 h2⟩
  · exact .inr ⟨g, cap, hv, hB, cur, hb, by simpa using hs, hl, hm, by simpa using ht⟩
theorem IG.own_form (h : IG w g cap xs) (hB : B ≤ g) : w.ownsRow B 3 1 (.slice (some ⟨g, 0, none⟩) xs.length cap) xs.length (xs.map iv) := h.list hB
theorem add_iv (g i : Nat) : (⟨g, 0, none⟩ : Addr).add i = ⟨g, i, none⟩ := by
  unfold Addr.add
  by_cases hi : i = 0 <;> simp [hi]
theorem IG.ints (h : IG w g cap xs) : IntsAt w (some ⟨g, 0, none⟩) xs := fun i x hx => ⟨_, rfl, by rw [add_iv]; exact h.cell hx⟩
/-- An own list, as it is read: a slice, and its numbers. -/
theorem IL.ints (h : IL w B v xs) : ∃ p c, v = .slice p xs.length c ∧ IntsAt w p xs := by
  rcases h.form with ⟨rfl, rfl⟩ | ⟨g, cap, rfl, -, hg⟩
  · exact ⟨none, 0, rfl, IntsAt.nil _ _⟩
  · exact ⟨_, _, rfl, hg.ints⟩
theorem IL.same (h : IL w B v xs) (hs : ∀ g, v.ownBlock = some g → w'.heap[g]? = w.heap[g]?) : IL w' B v xs := ownsRow_same h hs
theorem IL.below (h : IL w B v xs) (hb : Below w.heap.size w w') : IL w' B v xs := h.same fun g hg => by
  rcases h.form with ⟨rfl, rfl⟩ | ⟨g', cap, rfl, -, hi⟩
  · cases hg
  · cases hg; exact hb.block _ hi.lt
theorem IL.weak (h : IL w B v xs) {B' : Nat} (hB : B' ≤ B) : IL w B' v xs := by
  rcases h.form with ⟨rfl, rfl⟩ | ⟨g', cap, rfl, hg, hi⟩
  · exact IL.nil _ _
  · exact hi.list (by omega)
theorem IL.len (h : IL w B v xs) : xs.length ≤ maxLen := by
  rcases h.form with ⟨rfl, rfl⟩ | ⟨g', cap, rfl, hg, hi⟩
  · simp
  · have := hi.le; omega
/-- Just made: noughts. -/
theorem IG.made (w : World) (n : Nat) (h : n ≤ maxLen) : IG (w.alloc (.cells (madeCells #[.int .i64 0] n) 3)) w.heap.size n (List.replicate n 0) :=
  ⟨_, heap_alloc_new _ _, size_madeCells _ _, by simp, h, by rw [toList_madeCells_one]; simp⟩
end
theorem make_ints (n : Nat) (h : n ≤ 100000) (w : World) : (Instr.makeSlice 32 (.int .i64 (n : Int)) (.int .i64 (n : Int))).run Try.prog w = .ok (.slice (some ⟨w.heap.size, 0, none⟩) n n) (w.alloc (.cells (madeCells #[.int .i64 0] n) 3)) := by
  obtain ⟨i, hi, hz, hs, hb⟩ : ∃ i : TypeInfo, Try.prog.info? 3 = some i ∧ i.zero = some (.int .i64 0) ∧ i.size = 1 ∧ i.bytes = 8 := by
    have e : (Try.prog.info? 3).map (fun i => (i.zero, i.size, i.bytes)) = some (some (.int .i64 0), 1, 8) := by kernel_rfl
    cases hh : Try.prog.info? 3 with
    | none => rw [hh] at e; cases e
    | some i => rw [hh] at e; simp at e; exact ⟨i, rfl, e.1, e.2.1, e.2.2⟩
  have hr := run_make (P := Try.prog) w 32 3 i (.int .i64 0) Try.underlying32 hi hz .i64 .i64 n n (by omega) (Int.le_refl _) (by rw [hb]; omega) (by omega)
  simpa [hs, Value.cells] using hr

set_option maxHeartbeats 2000000 in
set_option maxRecDepth 100000 in
theorem ints_any (w : World) (p q : Option Addr) (c d : Nat) (xs ys : List Int) (hx : IntsAt w p xs) (hy : IntsAt w q ys) (hm : xs.length ≤ maxLen) (hm' : ys.length ≤ maxLen) :
    Calls Try.prog 19 #[.slice p xs.length c, .slice q ys.length d] w fun e w' => e = .returned (.bool (sameB xs ys)) ∧ Below w.heap.size w w' := by
  unfold maxLen at hm hm'
  have HX := Lib.hid hx
  have HY := Lib.hid hy
  clear hx hy
  by_cases hl : xs.length = ys.length
  · have HL := Lib.hid hl
    have HN : Hid (∀ j x y, xs[j]? = some x → ys[j]? = some y → x ≠ y → sameB xs ys = false) := fun j x y a b h => same_not a b h
    have HS : Hid ((∀ j, j < xs.length → xs[j]? = ys[j]?) → sameB xs ys = true) := fun h => same_all HL.out h
    rw [← hl] at hm' ⊢
    clear hl
    generalize hn : xs.length = n at *
    have HNn := Lib.hid hn
    clear hn
    generalize sameB xs ys = B at *
    have q0 : ((n : Int) != (n : Int)) = false := by simp
    go_enter Try.func19, Try.ntmps19
    go_wp2
    go_loopw [5] (fun vi wr => ∃ (k : Nat), vi = .int .i64 k ∧ k ≤ n ∧ Below w.heap.size w wr ∧ (∀ j, j < k → xs[j]? = ys[j]?)) (fun vi _ => n - (RowKit.intOf vi).toNat)
    case atStart => exact ⟨0, by rfl, by omega, Below.refl _ _, by simp⟩
    case round =>
      obtain ⟨k, rfl, hk, hbw, h2⟩ := hrel
      have H2 := Lib.hid h2
      clear h2
      by_cases hlt : k < n
      · obtain ⟨x, hxk⟩ : ∃ x, xs[k]? = some x := ⟨xs[k]'(by have := HNn.out; omega), List.getElem?_eq_getElem _⟩
        obtain ⟨y, hyk⟩ : ∃ y, ys[k]? = some y := ⟨ys[k]'(by have := HNn.out; have := HL.out; omega), List.getElem?_eq_getElem _⟩
        obtain ⟨a, rfl, ha⟩ := (HX.out.below hbw) k x hxk
        obtain ⟨a', rfl, ha'⟩ := (HY.out.below hbw) k y hyk
        have i1 : (k : Int) < (n : Int) := by omega
        have i0 : (0 : Int) ≤ (k : Int) := by omega
        have KX := Lib.hid hxk
        have KY := Lib.hid hyk
        clear hxk hyk
        by_cases he : x = y
        · subst he
          have q1 : (x != x) = false := by simp
          go_wp2_with fail
          go_quiet (fail)
          go_wp2
          go_roundw
          case rel => exact ⟨k + 1, by go_num, by omega, below_dr hbw _, fun j hj => by
            by_cases hj' : j < k
            · exact H2.out j hj'
            · obtain rfl : j = k := by omega
              rw [KX.out, KY.out]⟩
          case measure => simp [RowKit.intOf]; omega
        · have q1 : (x != y) = true := by simpa using he
          have HE := Lib.hid (HN.out k x y KX.out KY.out he)
          clear he
          go_wp2_with fail
          go_quiet (fail)
          go_wp2
          go_ret
          exact ⟨ret_b HE.out.symm, below_dr hbw _⟩
      · have hkn : k = n := by omega
        subst hkn
        go_wp2
        go_ret
        exact ⟨ret_b (HS.out H2.out).symm, hbw⟩
  · have q0 : ((xs.length : Int) != (ys.length : Int)) = true := by simpa using (by omega : ¬ (xs.length : Int) = ys.length)
    have HF := Lib.hid (same_len hl)
    clear hl
    generalize xs.length = n at *
    generalize ys.length = m at *
    go_enter Try.func19, Try.ntmps19
    go_wp2
    go_ret
    exact ⟨ret_b HF.out.symm, Below.refl _ _⟩
end Go.Proofs.Ytdhefefhipdlcaa
