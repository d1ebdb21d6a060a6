/- Layer 27 (mix), plain: orders and lots. -/
import Derived.Test.YtdhefefhipdlcaaMxMath
namespace Go.Proofs.Ytdhefefhipdlcaa

/-- 0 to n - 1, rising. -/
def upI (n : Nat) : List Int := (List.range n).map fun (i : Nat) => (i : Int)
theorem upI_length (n : Nat) : (upI n).length = n := by simp [upI]
theorem upI_get {n i : Nat} (h : i < n) : (upI n)[i]? = some (i : Int) := by simp [upI, h]
theorem upI_mem {n : Nat} {x : Int} : x ∈ upI n ↔ 0 ≤ x ∧ x < n := by
  simp only [upI, List.mem_map, List.mem_range]
  constructor
  · rintro ⟨a, ha, rfl⟩; omega
  · rintro ⟨h1, h2⟩; exact ⟨x.toNat, by omega, by omega⟩
theorem upI_sorted (n : Nat) : (upI n).Pairwise (· < ·) := by
  unfold upI
  rw [List.pairwise_map]
  exact List.pairwise_lt_range.imp (fun h => by omega)

/-! ### an order -/
def swapI (l : List Int) (i j : Nat) : List Int := (l.set i (l.getD j 0)).set j (l.getD i 0)
theorem swapI_length (l : List Int) (i j : Nat) : (swapI l i j).length = l.length := by simp [swapI]
theorem swapI_eq {l : List Int} {i j : Nat} {x y : Int} (hi : l[i]? = some x) (hj : l[j]? = some y) : swapI l i j = (l.set i y).set j x := by
  simp [swapI, List.getD, hi, hj]
theorem swapI_get {l : List Int} {i j : Nat} (hi : i < l.length) (hj : j < l.length) (k : Nat) : (swapI l i j)[k]? = if k = j then l[i]? else if k = i then l[j]? else l[k]? := by
  rw [swapI_eq (List.getElem?_eq_getElem hi) (List.getElem?_eq_getElem hj), List.getElem?_set, List.getElem?_set]
  by_cases h1 : j = k
  · subst h1; simp [hj, hi]
  · by_cases h2 : i = k
    · subst h2; simp [h1, hi, Ne.symm h1]; try rw [if_neg (fun e => h1 e.symm)]
    · rw [if_neg h1, if_neg h2, if_neg (fun e => h1 e.symm), if_neg (fun e => h2 e.symm)]
/-- From the i-th on down. -/
def ordGo (seed : Nat) : Nat → Nat → List Int → List Int
  | 0, _, l => l
  | i + 1, at_, l => ordGo seed i (nextN seed at_ (i + 2)) (swapI l (i + 1) (belowN seed at_ (i + 2)))
def orderL (seed n : Nat) : List Int := ordGo seed (n - 1) 0 (upI n)
theorem ordGo_length (seed : Nat) : ∀ i at_ l, (ordGo seed i at_ l).length = l.length
  | 0, _, _ => rfl
  | i + 1, at_, l => by rw [ordGo, ordGo_length, swapI_length]
theorem orderL_length (seed n : Nat) : (orderL seed n).length = n := by rw [orderL, ordGo_length, upI_length]
/-- No number stands twice, each is one of 0 to n - 1. -/
structure Good (n : Nat) (l : List Int) : Prop where
  len : l.length = n
  bd : ∀ x ∈ l, 0 ≤ x ∧ x < n
  one : ∀ (i j : Nat) (x : Int), l[i]? = some x → l[j]? = some x → i = j
theorem Good.up (n : Nat) : Good n (upI n) := ⟨upI_length n, fun _ h => upI_mem.1 h, fun i j x hi hj => by
  have h1 := (List.getElem?_eq_some_iff.1 hi).1
  have h2 := (List.getElem?_eq_some_iff.1 hj).1
  rw [upI_length] at h1 h2
  rw [upI_get h1] at hi
  rw [upI_get h2] at hj
  rw [← hj] at hi
  simp only [Option.some.injEq] at hi
  omega⟩
theorem Good.swap {n : Nat} {l : List Int} (h : Good n l) {i j : Nat} (hi : i < n) (hj : j < n) : Good n (swapI l i j) := by
  have hl := h.len
  have hg := swapI_get (l := l) (i := i) (j := j) (by omega) (by omega)
  refine ⟨by rw [swapI_length]; exact hl, fun x hx => ?_, fun a b x ha hb => ?_⟩
  · obtain ⟨k, hk⟩ := List.getElem?_of_mem hx
    rw [hg] at hk
    split at hk
    · exact h.bd x (List.mem_of_getElem? hk)
    · split at hk
      · exact h.bd x (List.mem_of_getElem? hk)
      · exact h.bd x (List.mem_of_getElem? hk)
  · rw [hg] at ha hb
    by_cases a1 : a = j
    · rw [if_pos a1] at ha
      by_cases b1 : b = j
      · omega
      · rw [if_neg b1] at hb
        by_cases b2 : b = i
        · rw [if_pos b2] at hb
          have := h.one _ _ _ ha hb; omega
        · rw [if_neg b2] at hb
          have := h.one _ _ _ ha hb; omega
    · rw [if_neg a1] at ha
      by_cases a2 : a = i
      · rw [if_pos a2] at ha
        by_cases b1 : b = j
        · rw [if_pos b1] at hb
          have := h.one _ _ _ ha hb; omega
        · rw [if_neg b1] at hb
          by_cases b2 : b = i
          · omega
          · rw [if_neg b2] at hb
            have := h.one _ _ _ ha hb; omega
      · rw [if_neg a2] at ha
        by_cases b1 : b = j
        · rw [if_pos b1] at hb
          have := h.one _ _ _ ha hb; omega
        · rw [if_neg b1] at hb
          by_cases b2 : b = i
          · rw [if_pos b2] at hb
            have := h.one _ _ _ ha hb; omega
          · rw [if_neg b2] at hb
            exact h.one _ _ _ ha hb
theorem belowN_lt (seed at_ n : Nat) (h : 0 < n) : belowN seed at_ n < n := Nat.mod_lt _ h
theorem nextN_lt (seed at_ n : Nat) : nextN seed at_ n < 18446744073709551616 := Nat.mod_lt _ (by decide)
theorem ordGo_good (seed n : Nat) : ∀ i at_ l, i < n → Good n l → Good n (ordGo seed i at_ l)
  | 0, _, _, _, h => h
  | i + 1, at_, l, hi, h => by
    rw [ordGo]
    exact ordGo_good seed n i _ _ (by omega) (h.swap hi (by have := belowN_lt seed at_ (i + 2) (by omega); omega))
theorem orderL_good (seed n : Nat) : Good n (orderL seed n) := by
  by_cases h : n = 0
  · subst h; exact Good.up 0
  · exact ordGo_good seed n _ _ _ (by omega) (Good.up n)
theorem Good.nodup {n : Nat} {l : List Int} (h : Good n l) : l.Nodup := by
  refine List.pairwise_iff_getElem.2 fun i j hi hj hij e => ?_
  have := h.one i j l[j] (by rw [List.getElem?_eq_getElem hi, e]) (List.getElem?_eq_getElem hj)
  omega

/-! ### lots -/
def lotsI : List Int → List Int → Option (List Int)
  | _, [] => some []
  | left, x :: xs => if left.contains x then (lotsI (left.eraseIdx (left.countP (· < x))) xs).map (((left.countP (· < x) : Nat) : Int) :: ·) else none
def ofI : List Int → List Int → Option (List Int)
  | _, [] => some []
  | left, k :: ks => if 0 ≤ k ∧ k < left.length then (ofI (left.eraseIdx k.toNat) ks).map (left.getD k.toNat 0 :: ·) else none

/-- In a rising list the place of a number is how many are less. -/
theorem place_of {l : List Int} (hs : l.Pairwise (· < ·)) {i : Nat} {x : Int} (hx : l[i]? = some x) : l.countP (· < x) = i := by
  induction l generalizing i with
  | nil => simp at hx
  | cons y ys ih =>
    rw [List.pairwise_cons] at hs
    cases i with
    | zero =>
      simp only [List.getElem?_cons_zero, Option.some.injEq] at hx
      subst hx
      rw [List.countP_cons]
      have : ys.countP (· < y) = 0 := by
        rw [List.countP_eq_zero]
        intro z hz
        have := hs.1 z hz
        simp; omega
      simp [this]
    | succ i =>
      rw [List.getElem?_cons_succ] at hx
      have := hs.1 x (List.mem_of_getElem? hx)
      rw [List.countP_cons, ih hs.2 hx]
      simp [this]
theorem place_get {l : List Int} (hs : l.Pairwise (· < ·)) {x : Int} (h : x ∈ l) : l[l.countP (· < x)]? = some x := by
  obtain ⟨i, hi⟩ := List.getElem?_of_mem h
  rw [place_of hs hi]; exact hi
theorem erase_sorted {l : List Int} (hs : l.Pairwise (· < ·)) (i : Nat) : (l.eraseIdx i).Pairwise (· < ·) := hs.sublist (List.eraseIdx_sublist _ _)
theorem mem_erase {l : List Int} {i : Nat} {x y : Int} (hi : l[i]? = some x) (h : y ∈ l) (hne : y ≠ x) : y ∈ l.eraseIdx i := by
  rw [List.mem_eraseIdx_iff_getElem?]
  obtain ⟨k, hk⟩ := List.getElem?_of_mem h
  refine ⟨k, fun e => ?_, hk⟩
  rw [e, hi] at hk
  exact hne (by cases hk; rfl)
theorem of_lots : ∀ {left order lots : List Int}, left.Pairwise (· < ·) → lotsI left order = some lots → ofI left lots = some order
  | left, [], lots, _, h => by cases h; rfl
  | left, x :: xs, lots, hs, h => by
    rw [lotsI] at h
    split at h
    · rename_i hc
      have hm : x ∈ left := by simpa using hc
      have hg := place_get hs hm
      have hlt := (List.getElem?_eq_some_iff.1 hg).1
      cases hl : lotsI (left.eraseIdx (left.countP (· < x))) xs with
      | none => rw [hl] at h; cases h
      | some ks =>
        rw [hl] at h
        simp only [Option.map_some, Option.some.injEq] at h
        subst h
        rw [ofI, if_pos ⟨by omega, by omega⟩]
        simp only [Int.toNat_natCast]
        rw [of_lots (erase_sorted hs _) hl]
        simp [List.getD, hg]
    · cases h
theorem lots_of : ∀ {left order lots : List Int}, left.Pairwise (· < ·) → ofI left lots = some order → lotsI left order = some lots
  | left, order, [], _, h => by cases h; rfl
  | left, order, k :: ks, hs, h => by
    rw [ofI] at h
    split at h
    · rename_i hk
      have hg : left[k.toNat]? = some (left.getD k.toNat 0) := by
        rw [List.getElem?_eq_getElem (by omega : k.toNat < left.length)]
        simp [List.getD, List.getElem?_eq_getElem (by omega : k.toNat < left.length)]
      cases hl : ofI (left.eraseIdx k.toNat) ks with
      | none => rw [hl] at h; cases h
      | some xs =>
        rw [hl] at h
        simp only [Option.map_some, Option.some.injEq] at h
        subst h
        rw [lotsI, if_pos (by simpa using List.mem_of_getElem? hg), place_of hs hg, lots_of (erase_sorted hs _) hl]
        simp; omega
    · cases h
theorem lots_yes : ∀ {left order : List Int}, left.Pairwise (· < ·) → order.Nodup → (∀ x ∈ order, x ∈ left) → ∃ lots, lotsI left order = some lots
  | left, [], _, _, _ => ⟨[], rfl⟩
  | left, x :: xs, hs, hn, hm => by
    have hx := hm x List.mem_cons_self
    have hg := place_get hs hx
    rw [List.nodup_cons] at hn
    obtain ⟨ks, hk⟩ := lots_yes (erase_sorted hs (left.countP (· < x))) hn.2 (fun y hy => mem_erase hg (hm y (List.mem_cons_of_mem _ hy)) (fun e => hn.1 (by rw [← e]; exact hy)))
    exact ⟨_, by rw [lotsI, if_pos (by simpa using hx), hk]; rfl⟩
/-- As many as there are, no one twice: no fewer can hold them. -/
theorem holds_few : ∀ {l m : List Int}, l.Nodup → (∀ x ∈ l, x ∈ m) → l.length ≤ m.length
  | [], _, _, _ => Nat.zero_le _
  | x :: xs, m, hn, hm => by
    rw [List.nodup_cons] at hn
    have hx := hm x List.mem_cons_self
    have := holds_few (l := xs) (m := m.erase x) hn.2 (fun y hy => (List.mem_erase_of_ne (fun e => hn.1 (by rw [← e]; exact hy))).2 (hm y (List.mem_cons_of_mem _ hy)))
    rw [List.length_erase_of_mem hx] at this
    have := List.length_pos_of_mem hx
    simp only [List.length_cons]; omega
theorem sorted_nodup {l : List Int} (hs : l.Pairwise (· < ·)) : l.Nodup := hs.imp (fun h => by omega)
theorem lots_full : ∀ {left order : List Int}, left.Pairwise (· < ·) → left.length = order.length → (∀ y ∈ left, y ∈ order) → ∃ lots, lotsI left order = some lots
  | left, [], _, _, _ => ⟨[], rfl⟩
  | left, x :: xs, hs, hl, hm => by
    have hx : x ∈ left := by
      by_cases h : x ∈ left
      · exact h
      · have := holds_few (sorted_nodup hs) (m := xs) (fun y hy => by
          rcases List.mem_cons.1 (hm y hy) with e | e
          · exact absurd (by rw [← e]; exact hy) h
          · exact e)
        simp only [List.length_cons] at hl; omega
    have hg := place_get hs hx
    have hlt := (List.getElem?_eq_some_iff.1 hg).1
    obtain ⟨ks, hk⟩ := lots_full (left := left.eraseIdx (left.countP (· < x))) (order := xs) (erase_sorted hs _) (by rw [List.length_eraseIdx_of_lt hlt]; simp only [List.length_cons] at hl; omega) (fun y hy => by
      obtain ⟨k, hk1, hk2⟩ := List.mem_eraseIdx_iff_getElem?.1 hy
      rcases List.mem_cons.1 (hm y (List.mem_of_getElem? hk2)) with e | e
      · exact absurd (by rw [← place_of hs hk2, e]) hk1
      · exact e)
    exact ⟨_, by rw [lotsI, if_pos (by simpa using hx), hk]; rfl⟩
theorem lots_all : ∀ {left order lots : List Int}, left.Pairwise (· < ·) → left.length = order.length → lotsI left order = some lots → ∀ y ∈ left, y ∈ order
  | left, [], _, _, hl, _, y, hy => by
    have : left = [] := List.length_eq_zero_iff.1 (by simpa using hl)
    rw [this] at hy; cases hy
  | left, x :: xs, lots, hs, hl, h, y, hy => by
    rw [lotsI] at h
    split at h
    · rename_i hc
      have hg := place_get hs (by simpa using hc)
      have hlt := (List.getElem?_eq_some_iff.1 hg).1
      by_cases e : y = x
      · subst e; exact List.mem_cons_self
      · cases hk : lotsI (left.eraseIdx (left.countP (· < x))) xs with
        | none => rw [hk] at h; cases h
        | some ks => exact List.mem_cons_of_mem _ (lots_all (erase_sorted hs _) (by rw [List.length_eraseIdx_of_lt hlt]; simp only [List.length_cons] at hl; omega) hk y (mem_erase hg hy e))
    · cases h
theorem lots_bd : ∀ {left order lots : List Int}, left.Pairwise (· < ·) → lotsI left order = some lots → lots.length = order.length ∧ ∀ (i : Nat) (k : Int), lots[i]? = some k → 0 ≤ k ∧ k < (left.length : Int) - i
  | left, [], lots, _, h => by cases h; exact ⟨rfl, fun i k hk => by simp at hk⟩
  | left, x :: xs, lots, hs, h => by
    rw [lotsI] at h
    split at h
    · rename_i hc
      have hg := place_get hs (by simpa using hc)
      have hlt := (List.getElem?_eq_some_iff.1 hg).1
      cases hl : lotsI (left.eraseIdx (left.countP (· < x))) xs with
      | none => rw [hl] at h; cases h
      | some ks =>
        rw [hl] at h
        simp only [Option.map_some, Option.some.injEq] at h
        subst h
        obtain ⟨h1, h2⟩ := lots_bd (erase_sorted hs _) hl
        refine ⟨by simp [h1], fun i k hk => ?_⟩
        cases i with
        | zero =>
          simp only [List.getElem?_cons_zero, Option.some.injEq] at hk
          omega
        | succ i =>
          rw [List.getElem?_cons_succ] at hk
          have := h2 i k hk
          rw [List.length_eraseIdx_of_lt hlt] at this
          omega
    · cases h
theorem of_length : ∀ {left lots order : List Int}, ofI left lots = some order → order.length = lots.length
  | _, [], _, h => by cases h; rfl
  | left, k :: ks, order, h => by
    rw [ofI] at h
    split at h
    · cases hl : ofI (left.eraseIdx k.toNat) ks with
      | none => rw [hl] at h; cases h
      | some xs =>
        rw [hl] at h
        simp only [Option.map_some, Option.some.injEq] at h
        subst h
        simp [of_length hl]
    · cases h
end Go.Proofs.Ytdhefefhipdlcaa
