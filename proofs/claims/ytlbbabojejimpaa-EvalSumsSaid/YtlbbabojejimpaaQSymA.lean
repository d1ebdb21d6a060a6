import Derived.ProofKit
import Derived.Test.YtlbbabojejimpaaQTbA
import Derived.Deep.RegionHeld3
/- Two ranges of a list changed about. -/
namespace Go.Proofs.Ytlbbabojejimpaa.Sym
variable {α : Type}
/-- Two ranges changed about, so many places of each. -/
def swapR (L : List α) (a b : Nat) : Nat → List α
  | 0 => L
  | k + 1 => match (swapR L a b k)[a + k]?, (swapR L a b k)[b + k]? with
    | some x, some y => ((swapR L a b k).set (a + k) y).set (b + k) x
    | _, _ => swapR L a b k
theorem swapR_len (L : List α) (a b : Nat) : ∀ k, (swapR L a b k).length = L.length
  | 0 => rfl
  | k + 1 => by
    have ih := swapR_len L a b k
    unfold swapR
    split
    · simp [ih]
    · exact ih
theorem swapR_next {L : List α} {a b k : Nat} {x y : α} (hx : (swapR L a b k)[a + k]? = some x) (hy : (swapR L a b k)[b + k]? = some y) : swapR L a b (k + 1) = ((swapR L a b k).set (a + k) y).set (b + k) x := by
  rw [swapR, hx, hy]
theorem swapR_get (L : List α) {a b n : Nat} (hab : a + n ≤ b) (hb : b + n ≤ L.length) : ∀ k, k ≤ n → ∀ i, (swapR L a b k)[i]? = if a ≤ i ∧ i < a + k then L[b + (i - a)]? else if b ≤ i ∧ i < b + k then L[a + (i - b)]? else L[i]? := by
  intro k
  induction k with
  | zero =>
    intro _ i
    rw [if_neg (by omega), if_neg (by omega)]
    rfl
  | succ k ih =>
    intro hk i
    have ih' := ih (by omega)
    have hx := ih' (a + k)
    have hy := ih' (b + k)
    rw [if_neg (by omega), if_neg (by omega)] at hx hy
    have hxl : a + k < L.length := by omega
    have hyl : b + k < L.length := by omega
    rw [List.getElem?_eq_getElem hxl] at hx
    rw [List.getElem?_eq_getElem hyl] at hy
    have hlen := swapR_len L a b k
    unfold swapR
    rw [hx, hy]
    dsimp only
    rw [List.getElem?_set, List.getElem?_set]
    simp only [List.length_set, hlen]
    by_cases h1 : b + k = i
    · subst h1
      rw [if_pos rfl, if_pos hyl, if_neg (by omega), if_pos (by omega), show a + (b + k - b) = a + k by omega, List.getElem?_eq_getElem hxl]
    · rw [if_neg h1]
      by_cases h2 : a + k = i
      · subst h2
        rw [if_pos rfl, if_pos hxl, if_pos (by omega), show b + (a + k - a) = b + k by omega, List.getElem?_eq_getElem hyl]
      · rw [if_neg h2, ih' i]
        have e1 : (a ≤ i ∧ i < a + (k + 1)) ↔ (a ≤ i ∧ i < a + k) := by omega
        have e2 : (b ≤ i ∧ i < b + (k + 1)) ↔ (b ≤ i ∧ i < b + k) := by omega
        simp only [e1, e2]
theorem swapR_parts (P A M B S : List α) (h : A.length = B.length) : swapR (P ++ (A ++ (M ++ (B ++ S)))) P.length (P.length + A.length + M.length) A.length = P ++ (B ++ (M ++ (A ++ S))) := by
  apply List.ext_getElem?
  intro i
  rw [swapR_get _ (n := A.length) (by omega) (by simp; omega) _ (Nat.le_refl _)]
  simp only [List.getElem?_append]
  grind
end Go.Proofs.Ytlbbabojejimpaa.Sym

/- The library's merge in place, without memory: where it cuts both lists all of the first half is at most all of the second; rotating by changing ranges about. -/
namespace Go.Proofs.Ytlbbabojejimpaa.Sym
variable {α : Type} (f : α → Int)

def Up (l : List α) : Prop := l.Pairwise fun x y => f x ≤ f y

theorem up_take_drop {l : List α} (h : Up f l) (k : Nat) : ∀ x ∈ l.take k, ∀ y ∈ l.drop k, f x ≤ f y := by
  intro x hx y hy
  have h' : Up f (l.take k ++ l.drop k) := by rw [List.take_append_drop]; exact h
  exact (List.pairwise_append.1 h').2.2 x hx y hy
theorem Up.take {l : List α} (h : Up f l) (k : Nat) : Up f (l.take k) := List.Pairwise.sublist (List.take_sublist k l) h
theorem Up.drop {l : List α} (h : Up f l) (k : Nat) : Up f (l.drop k) := List.Pairwise.sublist (List.drop_sublist k l) h
theorem up_last {l : List α} (h : Up f l) {k : Nat} {z : α} (hz : l[k]? = some z) : ∀ x ∈ l.take (k + 1), f x ≤ f z := by
  intro x hx
  rw [List.take_add_one, hz] at hx
  simp only [Option.toList_some, List.mem_append, List.mem_singleton] at hx
  rcases hx with hx | rfl
  · exact up_take_drop f h k x hx z (by
      have := List.getElem?_drop (xs := l) (i := k) (j := 0)
      rw [Nat.add_zero, hz] at this
      exact List.mem_of_getElem? this)
  · exact Int.le_refl _
theorem up_first {l : List α} (h : Up f l) {k : Nat} {z : α} (hz : l[k]? = some z) : ∀ y ∈ l.drop k, f z ≤ f y := by
  intro y hy
  have hk := (List.getElem?_eq_some_iff.1 hz)
  obtain ⟨hlt, he⟩ := hk
  rw [List.drop_eq_getElem_cons hlt, he] at hy
  rcases List.mem_cons.1 hy with rfl | hy
  · exact Int.le_refl _
  · exact up_last f h hz z (by rw [List.take_add_one, hz]; simp) |> fun _ => up_take_drop f h (k + 1) z (by rw [List.take_add_one, hz]; simp) y hy
/-- The cut: s of the first list, e of the second. -/
theorem cut_le {A B : List α} (hA : Up f A) (hB : Up f B) {s e : Nat}
    (h1 : s = 0 ∨ e ≥ B.length ∨ ∃ x y, A[s - 1]? = some x ∧ B[e]? = some y ∧ f x ≤ f y)
    (h2 : e = 0 ∨ s ≥ A.length ∨ ∃ x y, B[e - 1]? = some x ∧ A[s]? = some y ∧ f x ≤ f y) :
    ∀ x ∈ A.take s ++ B.take e, ∀ y ∈ A.drop s ++ B.drop e, f x ≤ f y := by
  intro x hx y hy
  rcases List.mem_append.1 hx with hx | hx <;> rcases List.mem_append.1 hy with hy | hy
  · exact up_take_drop f hA s x hx y hy
  · rcases h1 with rfl | h | ⟨u, v, hu, hv, huv⟩
    · simp at hx
    · rw [List.drop_of_length_le h] at hy; cases hy
    · by_cases h0 : s = 0
      · subst h0; simp at hx
      · have a := up_last f hA hu x (by rwa [show s - 1 + 1 = s by omega])
        have b := up_first f hB hv y hy
        omega
  · rcases h2 with rfl | h | ⟨u, v, hu, hv, huv⟩
    · simp at hx
    · rw [List.drop_of_length_le h] at hy; cases hy
    · by_cases h0 : e = 0
      · subst h0; simp at hx
      · have a := up_last f hB hu x (by rwa [show e - 1 + 1 = e by omega])
        have b := up_first f hA hv y hy
        omega
  · exact up_take_drop f hB e x hx y hy
theorem up_append {A B : List α} (hA : Up f A) (hB : Up f B) (h : ∀ x ∈ A, ∀ y ∈ B, f x ≤ f y) : Up f (A ++ B) := List.pairwise_append.2 ⟨hA, hB, h⟩
/-- Both halves in order: the whole is. -/
theorem halves {A B C D : List α} {s e : Nat} (hcut : ∀ x ∈ A.take s ++ B.take e, ∀ y ∈ A.drop s ++ B.drop e, f x ≤ f y)
    (hC : C.Perm (A.take s ++ B.take e)) (hD : D.Perm (A.drop s ++ B.drop e)) (uC : Up f C) (uD : Up f D) : (C ++ D).Perm (A ++ B) ∧ Up f (C ++ D) := by
  constructor
  · have h1 : (C ++ D).Perm ((A.take s ++ B.take e) ++ (A.drop s ++ B.drop e)) := hC.append hD
    refine h1.trans ?_
    have h2 : ((A.take s ++ B.take e) ++ (A.drop s ++ B.drop e)).Perm ((A.take s ++ A.drop s) ++ (B.take e ++ B.drop e)) := by
      simp only [List.append_assoc]
      refine List.Perm.append_left _ ?_
      rw [← List.append_assoc, ← List.append_assoc]
      exact List.Perm.append_right _ List.perm_append_comm
    rw [List.take_append_drop, List.take_append_drop] at h2
    exact h2
  · exact up_append f uC uD fun x hx y hy => hcut x (hC.mem_iff.1 hx) y (hD.mem_iff.1 hy)
end Go.Proofs.Ytlbbabojejimpaa.Sym

/- A row of things of one cell each, from a block's beginning: read, written; slices' swapRange and rotate of it. -/
namespace Go.Proofs.Ytlbbabojejimpaa.Sym
open Go.RowKit Go.Lib

section
variable {N g : Nat} {w w' : World} {L : List Nat}
/-- A number as a value. -/
abbrev enc (i : Nat) : Value := .int .i64 (i : Int)
def Lies (N : Nat) (w : World) (g : Nat) (L : List Nat) : Prop := ∃ cur : Array Value, w.heap[g]? = some (.cells cur 3 (0, 0)) ∧ cur.size = N ∧ L.length ≤ N ∧ cur.toList.take L.length = L.map enc
theorem Lies.cell (h : Lies N w g L) {i : Nat} {x : Nat} (hx : L[i]? = some x) : w.cell? ⟨g, i, none⟩ = some (enc x) := by
  obtain ⟨cur, hb, hs, hl, ht⟩ := h
  have hi := (List.getElem?_eq_some_iff.1 hx).1
  have h1 : (cur.toList.take L.length)[i]? = (L.map enc)[i]? := by rw [ht]
  rw [List.getElem?_take_of_lt hi, List.getElem?_map, hx] at h1
  rw [cell_blk hb]
  simpa using h1
theorem Lies.free (h : Lies N w g L) (i : Nat) : w.frozen? ⟨g, i, none⟩ = false := by
  obtain ⟨cur, hb, -⟩ := h
  exact free_blk hb
theorem Lies.lt (h : Lies N w g L) : g < w.heap.size := by
  obtain ⟨cur, hb, -⟩ := h
  exact heap_lt hb
theorem Lies.same (h : Lies N w g L) (hb : w'.heap[g]? = w.heap[g]?) : Lies N w' g L := by
  obtain ⟨cur, h1, r⟩ := h
  exact ⟨cur, hb.trans h1, r⟩
theorem Lies.drew (h : Lies N w g L) : Lies N w.drew g L := h.same rfl
theorem Lies.drewN (h : Lies N w g L) (n : Nat) : Lies N (w.drewN n) g L := h.same rfl
theorem Lies.below (h : Lies N w g L) (hb : Below w.heap.size w w') : Lies N w' g L := h.same (hb.block _ h.lt)
theorem Lies.set (h : Lies N w g L) (i : Nat) (x : Nat) : Lies N (w.setCell ⟨g, i, none⟩ (enc x)) g (L.set i x) := by
  obtain ⟨cur, hb, hs, hl, ht⟩ := h
  refine ⟨_, heap_set hb (enc x), by simp [hs], by simpa using hl, ?_⟩
  rw [List.length_set, Array.toList_setIfInBounds, List.take_set, ht, List.map_set]
end

set_option maxHeartbeats 4000000 in
set_option maxRecDepth 100000 in
theorem swapRange_any (N g cap : Nat) (cf : Value) (L : List Nat) (a b n len : Nat) (w : World) (hlen : L.length = len) (hab : a + n ≤ b) (hb : b + n ≤ len) (hf : len ≤ 1000000) (h : Lies N w g L) :
    Calls Try.prog 63 #[.slice (some ⟨g, 0, none⟩) len cap, .int .i64 a, .int .i64 b, .int .i64 n, cf] w fun e w' => e = .returned (.tuple #[]) ∧ Kept g w w' ∧ Lies N w' g (swapR L a b n) := by
  have HL := Lib.hid hlen
  have H := Lib.hid h
  clear hlen h
  go_enter Try.func63, Try.ntmps63
  go_wp2_with fail
  go_loopw [10] (fun vi wr => ∃ i : Nat, vi = .int .i64 i ∧ i ≤ n ∧ Kept g w wr ∧ Lies N wr g (swapR L a b i)) (fun vi _ => n - (RowKit.intOf vi).toNat)
  case atStart => exact ⟨0, by rfl, by omega, Kept.refl _ _, H.out⟩
  case round =>
    obtain ⟨i, rfl, hi, hk, hL⟩ := hrel
    rename World => wA
    by_cases hlt : i < n
    · have hl1 := swapR_len L a b i
      rw [HL.out] at hl1
      obtain ⟨x, hx⟩ : ∃ x, (swapR L a b i)[a + i]? = some x := ⟨_, List.getElem?_eq_getElem (by omega)⟩
      obtain ⟨y, hy⟩ : ∃ y, (swapR L a b i)[b + i]? = some y := ⟨_, List.getElem?_eq_getElem (by omega)⟩
      have c1 := hL.cell hx
      have c2 := hL.cell hy
      have f1 := hL.free (a + i)
      have f2 := hL.free (b + i)
      have s1 := swapR_next hx hy
      have HS := Lib.hid (show Lies N ((wA.setCell ⟨g, a + i, none⟩ (enc y)).setCell ⟨g, b + i, none⟩ (enc x)) g (swapR L a b (i + 1)) from by rw [s1]; exact (hL.set (a + i) y).set (b + i) x)
      have HK := Lib.hid (show Kept g w ((wA.setCell ⟨g, a + i, none⟩ (enc y)).setCell ⟨g, b + i, none⟩ (enc x)) from (hk.setCell (Or.inl rfl) _).setCell (Or.inl rfl) _)
      have k0 : (0 : Int) ≤ (a : Int) + i := by omega
      have k1 : (a : Int) + i < (len : Int) := by omega
      have k2 : (0 : Int) ≤ (b : Int) + i := by omega
      have k3 : (b : Int) + i < (len : Int) := by omega
      have k4 : (i : Int) < (n : Int) := by omega
      have e1 : ((a : Int) + i).toNat = a + i := by omega
      have e2 : ((b : Int) + i).toNat = b + i := by omega
      clear hL hk s1 hx hy hl1
      go_wp2_with fail
      go_region
      go_wp2_with fail
      go_roundw
      case rel => exact ⟨i + 1, by go_num, by omega, HK.out.drew, HS.out.drew⟩
      case measure => simp [RowKit.intOf]; omega
    · obtain rfl : i = n := by omega
      have HK := Lib.hid hk
      have HS := Lib.hid hL
      clear hk hL
      go_wp2_with fail
      go_end0
      exact ⟨rfl, HK.out, HS.out⟩
end Go.Proofs.Ytlbbabojejimpaa.Sym
