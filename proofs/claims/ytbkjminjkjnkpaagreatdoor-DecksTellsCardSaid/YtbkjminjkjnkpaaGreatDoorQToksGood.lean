import Derived.Test.YtbkjminjkjnkpaaGreatDoorQParSpec
import Derived.Test.YtbkjminjkjnkpaaGreatDoorQScan
/- Plain: the tokens that a scanner hands out are as a reader wants them. -/
namespace Go.Proofs.YtbkjminjkjnkpaaGreatDoor
open Go.RowKit Go.Lib

/-- Of what was there nothing but the block R has turned. -/
structure Kept (R : Nat) (w w' : World) : Prop where
  os : w'.os = w.os
  tape : w'.tape = w.tape
  output : w'.output = w.output
  size : w.heap.size ≤ w'.heap.size
  block : ∀ k, k < w.heap.size → k ≠ R → w'.heap[k]? = w.heap[k]?
theorem Kept.refl (R : Nat) (w : World) : Kept R w w := ⟨rfl, rfl, rfl, Nat.le_refl _, fun _ _ _ => rfl⟩
theorem Kept.trans {R : Nat} {a b c : World} (h : Kept R a b) (k : Kept R b c) : Kept R a c :=
  ⟨k.os.trans h.os, k.tape.trans h.tape, k.output.trans h.output, Nat.le_trans h.size k.size, fun i hi hr => (k.block i (Nat.lt_of_lt_of_le hi h.size) hr).trans (h.block i hi hr)⟩
theorem Kept.of_below {R : Nat} {w w' : World} (h : Below w.heap.size w w') : Kept R w w' := ⟨h.os, h.tape, h.output, h.size, fun k hk _ => h.block k hk⟩
theorem Kept.alloc {R : Nat} {a w : World} (h : Kept R a w) (o : Obj) : Kept R a (w.alloc o) := h.trans (.of_below ((Below.refl _ _).alloc (Nat.le_refl _) o))
theorem Kept.drew {R : Nat} {a w : World} (h : Kept R a w) : Kept R a w.drew := h.trans (.of_below (Below.refl _ _).drew)
/-- A store into R, or into a block that is new. -/
theorem Kept.setCell {R : Nat} {a w : World} (h : Kept R a w) {p : Addr} (hp : p.block = R ∨ a.heap.size ≤ p.block) (u : Value) : Kept R a (w.setCell p u) :=
  ⟨h.os, h.tape, h.output, by have := h.size; simpa [World.setCell] using this, fun k hk hr => by rw [Below.heap_setCell _ _ _ _ (by omega)]; exact h.block k hk hr⟩
theorem Kept.below {R B : Nat} {w w' : World} (h : Kept R w w') (hB : B ≤ w.heap.size) (hR : B ≤ R) : Below B w w' := ⟨h.os, h.tape, h.output, h.size, fun k hk => h.block k (by omega) (by omega)⟩
theorem Kept.cell {R : Nat} {w w' : World} (h : Kept R w w') {a : Addr} {v : Value} (hr : a.block ≠ R) (hc : w.cell? a = some v) : w'.cell? a = some v := by
  rw [World.cell?_of_block (w := w) (h.block _ (World.block_lt_of_cell? _ _ hc) hr)]; exact hc
theorem Kept.heap {R : Nat} {w w' : World} (h : Kept R w w') {k : Nat} {o : Obj} (hr : k ≠ R) (hc : w.heap[k]? = some o) : w'.heap[k]? = some o := (h.block _ (heap_lt hc) hr).trans hc

/-- The token is one that a scanner hands out. -/
structure WTok (t : Tok) : Prop where
  kind : t.kind ≤ 3
  none : t.kind = 0 → t.text = ⟨#[]⟩
  some : t.kind ≠ 0 → t.text ≠ ⟨#[]⟩
  num : t.kind = 2 → (∀ b ∈ t.text.data.toList, 48 ≤ b.toNat ∧ b.toNat ≤ 57) ∧ valOf t.text.data.toList ≤ 99999
  size : t.text.size ≤ 65536
/-- Tokens as a scanner hands them out: the last one alone is the text's end. -/
structure WToks (ts : List Tok) : Prop where
  pos : 0 < ts.length
  all : ∀ t ∈ ts, WTok t
  last : ∀ p, p < ts.length → ((tk ts p).kind = 0 ↔ p + 1 = ts.length)

theorem tk_mem {ts : List Tok} {p : Nat} (h : p < ts.length) : tk ts p ∈ ts := by
  unfold tk; rw [List.getD_eq_getElem?_getD, List.getElem?_eq_getElem h]; exact List.getElem_mem h
theorem tk_get {ts : List Tok} {p : Nat} (h : p < ts.length) : ts[p]? = some (tk ts p) := by
  unfold tk; rw [List.getD_eq_getElem?_getD, List.getElem?_eq_getElem h]; rfl


def digF (v : Nat) (b : UInt8) : Nat := 10 * v + (b.toNat - 48)
theorem byte_list (s : ByteArray) (i : Nat) (h : i < s.size) : s.data.toList[i]? = some (s[i]'h) := by
  rw [Array.getElem?_toList]
  exact Array.getElem?_eq_getElem (by simpa using h)
theorem drop_cons (s : ByteArray) (i : Nat) (h : i < s.size) : s.data.toList.drop i = (s[i]'h) :: s.data.toList.drop (i + 1) := by
  have hl : i < s.data.toList.length := by simpa using h
  rw [List.drop_eq_getElem_cons hl]
  congr 1

theorem numGo_spec (s : ByteArray) : ∀ f pos v, pos ≤ s.size → v ≤ 100000 → pos ≤ (numGo s f pos v).1 ∧ v ≤ (numGo s f pos v).2 ∧
    (∀ b ∈ (s.data.toList.drop pos).take ((numGo s f pos v).1 - pos), 48 ≤ b.toNat ∧ b.toNat ≤ 57) ∧
    ((numGo s f pos v).2 ≤ 99999 → ((s.data.toList.drop pos).take ((numGo s f pos v).1 - pos)).foldl digF v = (numGo s f pos v).2)
  | 0, pos, v, h1, h2 => by simp [numGo]
  | f + 1, pos, v, h1, h2 => by
    by_cases hp : pos < s.size
    · by_cases hd : digB (byteAt s pos) = true
      · rw [numGo_more s f pos v hp hd]
        obtain ⟨a1, a2, a3, a4⟩ := numGo_spec s f (pos + 1) (addDigit v (byteAt s pos)) (by omega) (addDigit_le _ _)
        have hb := (digB_iff _).1 hd
        have hge : v ≤ addDigit v (byteAt s pos) := by unfold addDigit; omega
        have hbyte := byteAt_get s pos hp
        have htk : (s.data.toList.drop pos).take ((numGo s f (pos + 1) (addDigit v (byteAt s pos))).1 - pos) = (s[pos]'hp) :: (s.data.toList.drop (pos + 1)).take ((numGo s f (pos + 1) (addDigit v (byteAt s pos))).1 - (pos + 1)) := by
          rw [drop_cons s pos hp, show (numGo s f (pos + 1) (addDigit v (byteAt s pos))).1 - pos = ((numGo s f (pos + 1) (addDigit v (byteAt s pos))).1 - (pos + 1)) + 1 by omega, List.take_succ_cons]
        refine ⟨by omega, by omega, ?_, ?_⟩
        · rw [htk]
          intro b hb'
          rcases List.mem_cons.1 hb' with rfl | hb'
          · rw [← hbyte]; omega
          · exact a3 b hb'
        · intro hle
          rw [htk, List.foldl_cons]
          have h5 := a4 hle
          have he : digF v (s[pos]'hp) = addDigit v (byteAt s pos) := by unfold digF; rw [← hbyte]; unfold addDigit at *; omega
          rw [he]
          exact h5
      · rw [numGo_stop s _ pos v (by simpa using hd)]
        simp
    · rw [numGo_end s _ pos v hp]
      simp

structure GoodTok (t : Tok) : Prop where
  pos : t.kind ≠ 0
  wf : WTok t
theorem extract_take (s : ByteArray) (a n : Nat) : (s.extract a (a + n)).data.toList = (s.data.toList.drop a).take n := by
  rw [ByteArray.data_extract, Array.toList_extract, List.extract_eq_take_drop]
  congr 1
  omega
theorem bytes_ne {x : ByteArray} (h : 0 < x.size) : x ≠ ⟨#[]⟩ := fun e => by subst e; exact absurd h (by decide)

theorem tok_good (s : ByteArray) (pos : Nat) (here : Int × Int) (hp : pos < s.size) (hs : s.size ≤ 65536) (h : (tokOf (s.extract pos s.size)).2.2 = 0) :
    GoodTok ⟨(tokOf (s.extract pos s.size)).1, s.extract pos (pos + (tokOf (s.extract pos s.size)).2.1), here⟩ := by
  have hz : (s.extract pos s.size).size = s.size - pos := by simp
  have h1 := wordOf_le (s.extract pos s.size)
  have h2 := numOf_le (s.extract pos s.size)
  have h3 := numGo_spec (s.extract pos s.size) (s.extract pos s.size).size 0 0 (by omega) (by omega)
  have hl := extract_to_end s pos
  unfold tokOf at h ⊢
  have hsz : ∀ n, n ≤ s.size - pos → (s.extract pos (pos + n)).size = n := fun n hn => by simp; omega
  by_cases c1 : 0 < (wordOf (s.extract pos s.size)).1
  · rw [if_pos c1] at h ⊢
    by_cases c2 : 24 < (wordOf (s.extract pos s.size)).2
    · rw [if_pos c2] at h; cases h
    · rw [if_neg c2]
      have := hsz _ (hz ▸ h1.1)
      exact ⟨by simp, ⟨by simp, fun e => by simp at e, fun _ => bytes_ne (by simp only; omega), fun e => by simp at e, by simp only; omega⟩⟩
  · rw [if_neg c1] at h ⊢
    by_cases c2 : 0 < (numOf (s.extract pos s.size)).1
    · rw [if_pos c2] at h ⊢
      by_cases c3 : numFault (s.extract pos s.size) (numOf (s.extract pos s.size)).1 (numOf (s.extract pos s.size)).2 = 0
      · rw [if_pos c3]
        have := hsz _ (hz ▸ h2.1)
        have hv : (numOf (s.extract pos s.size)).2 ≤ 99999 := by
          unfold numFault at c3
          by_cases c4 : 99999 < (numOf (s.extract pos s.size)).2
          · rw [if_pos c4] at c3; cases c3
          · omega
        obtain ⟨-, -, a3, a4⟩ := h3
        rw [hl] at a3 a4
        have ex := extract_take s pos (numOf (s.extract pos s.size)).1
        refine ⟨by simp, ⟨by simp, fun e => by simp at e, fun _ => bytes_ne (by simp only; omega), fun _ => ⟨?_, ?_⟩, by simp only; omega⟩⟩
        · simp only [ex]
          simpa [numOf] using a3
        · simp only [ex]
          have h5 := a4 hv
          have h6 : valOf ((s.data.toList.drop pos).take (numOf (s.extract pos s.size)).1) = (numOf (s.extract pos s.size)).2 := by
            have h7 : (fun v (b : UInt8) => 10 * v + (b.toNat - 48)) = digF := rfl
            unfold valOf; rw [h7]; simpa [numOf] using h5
          rw [h6]; exact hv
      · rw [if_neg c3] at h; exact absurd h c3
    · rw [if_neg c2] at h ⊢
      by_cases c3 : markB (byteAt (s.extract pos s.size) 0) = true
      · rw [if_pos c3]
        have := hsz 1 (by omega)
        exact ⟨by simp, ⟨by simp, fun e => by simp at e, fun _ => bytes_ne (by simp only; omega), fun e => by simp at e, by simp only; omega⟩⟩
      · rw [if_neg c3] at h; cases h

theorem scan_good (s : ByteArray) (hs : s.size ≤ 65536) : ∀ f pos here remark behind acc, (∀ t ∈ acc, GoodTok t) → (scanGo s f pos here remark behind acc).2.1 = 0 →
    ∃ l here', (scanGo s f pos here remark behind acc).1 = l ++ [endTok here'] ∧ ∀ t ∈ l, GoodTok t
  | 0, pos, here, remark, behind, acc, ha, _ => ⟨acc, here, rfl, ha⟩
  | f + 1, pos, here, remark, behind, acc, ha, h => by
    unfold scanGo at h ⊢
    by_cases hp : pos < s.size
    · rw [if_pos hp] at h ⊢
      by_cases c1 : brokenB (s.extract pos s.size) (Utf8.decode s pos).1 = true
      · rw [if_pos c1] at h; cases h
      rw [if_neg c1] at h ⊢
      by_cases c2 : pos < behind
      · rw [if_pos c2] at h ⊢; exact scan_good s hs f _ _ _ _ _ ha h
      rw [if_neg c2] at h ⊢
      by_cases c3 : remark = true
      · rw [if_pos c3] at h ⊢; exact scan_good s hs f _ _ _ _ _ ha h
      rw [if_neg c3] at h ⊢
      by_cases c4 : (Utf8.decode s pos).1 = 35
      · rw [if_pos c4] at h ⊢; exact scan_good s hs f _ _ _ _ _ ha h
      rw [if_neg c4] at h ⊢
      by_cases c5 : blankB (Utf8.decode s pos).1 = true
      · rw [if_pos c5] at h ⊢; exact scan_good s hs f _ _ _ _ _ ha h
      rw [if_neg c5] at h ⊢
      by_cases c6 : (tokOf (s.extract pos s.size)).2.2 = 0
      · rw [if_pos c6] at h ⊢
        refine scan_good s hs f _ _ _ _ _ (fun t ht => ?_) h
        rcases List.mem_append.1 ht with ht | ht
        · exact ha t ht
        · simp only [List.mem_singleton] at ht; subst ht; exact tok_good s pos here hp hs c6
      · rw [if_neg c6] at h; exact absurd h c6
    · rw [if_neg hp] at h ⊢; exact ⟨acc, here, rfl, ha⟩

theorem wtoks_of (l : List Tok) (here : Int × Int) (h : ∀ t ∈ l, GoodTok t) : WToks (l ++ [endTok here]) := by
  refine ⟨by simp, fun t ht => ?_, fun p hp => ?_⟩
  · rcases List.mem_append.1 ht with ht | ht
    · exact (h t ht).wf
    · simp only [List.mem_singleton] at ht; subst ht
      exact ⟨by simp [endTok], fun _ => rfl, fun e => absurd rfl e, fun e => by simp [endTok] at e, Nat.zero_le _⟩
  · rw [List.length_append, List.length_singleton] at hp ⊢
    unfold tk
    by_cases hl : p < l.length
    · rw [List.getD_eq_getElem?_getD, List.getElem?_append_left hl, List.getElem?_eq_getElem hl]
      have := (h _ (List.getElem_mem hl)).pos
      simp only [Option.getD_some]
      exact ⟨fun e => absurd e this, fun e => by omega⟩
    · have e : p = l.length := by omega
      subst e
      rw [List.getD_eq_getElem?_getD, List.getElem?_append_right (by omega)]
      simp [endTok]
theorem wtoks_scan (s : ByteArray) (h : (scanOf s).2.1 = 0) : WToks (scanOf s).1 := by
  unfold scanOf at h ⊢
  by_cases hs : 65536 < s.size
  · rw [if_pos hs] at h; cases h
  · rw [if_neg hs] at h ⊢
    obtain ⟨l, here', hl, hg⟩ := scan_good s (by omega) s.size 0 (1, 1) false 0 [] (fun t ht => by cases ht) h
    rw [hl]
    exact wtoks_of l here' hg
theorem findW_mem {ws : List ByteArray} {t : ByteArray} : ∀ {i : Nat}, findW ws t i = none → ∀ x ∈ ws, x ≠ t := by
  induction ws with
  | nil => intro i _ x hx; simp at hx
  | cons w l ih =>
    intro i h x hx
    unfold findW at h
    by_cases he : w = t
    · rw [if_pos he] at h; cases h
    · rw [if_neg he] at h
      rcases List.mem_cons.1 hx with rfl | hx
      · exact he
      · exact ih h x hx
theorem findW_get : ∀ (ws : List ByteArray) (t : ByteArray) (i k : Nat), findW ws t i = some k → ws[k - i]? = some t ∧ i ≤ k
  | [], _, _, _, h => by simp [findW] at h
  | w :: l, t, i, k, h => by
    unfold findW at h
    by_cases he : w = t
    · rw [if_pos he] at h; cases h; simp [he]
    · rw [if_neg he] at h
      have := findW_get l t (i + 1) k h
      refine ⟨?_, by omega⟩
      rw [show k - i = (k - (i + 1)) + 1 by omega]
      simpa using this.1

theorem str_ne {a b : ByteArray} (h : a ≠ b) : (a.toList == b.toList) = false := (Lib.bytes_beq_false_iff a b).2 h
theorem str_eq {a b : ByteArray} (h : a = b) : (a.toList == b.toList) = true := (Lib.bytes_beq_iff a b).2 h
theorem str_ne_l {a : ByteArray} {l : List UInt8} (h : a ≠ ⟨l.toArray⟩) : (a.toList == l) = false := by
  rw [beq_eq_false_iff_ne, ByteArray.toList_eq]
  intro e
  exact h (ByteArray.ext (by rw [← e]))
theorem str_eq_l {a : ByteArray} {l : List UInt8} (h : a = ⟨l.toArray⟩) : (a.toList == l) = true := by
  subst h
  rw [beq_iff_eq, ByteArray.toList_eq]
theorem ownsRow_same {w w' : World} {b : Nat} {e : TypeId} {size : Nat} {v : Value} {n : Nat} {xs : List Value} (h : w.ownsRow b e size v n xs) (hs : ∀ g, v.ownBlock = some g → w'.heap[g]? = w.heap[g]?) : w'.ownsRow b e size v n xs := by
  refine ⟨h.1, ?_⟩
  rcases h.2 with h0 | ⟨g, cap, cur, hv, hg, hh, r⟩
  · exact .inl h0
  · exact .inr ⟨g, cap, cur, hv, hg, (hs g (by rw [hv]; rfl)).trans hh, r⟩
end Go.Proofs.YtbkjminjkjnkpaaGreatDoor
