import Derived.Test.YtlbbabojejimpaaQSortIns
import Derived.Test.YtlbbabojejimpaaQTbA
/- board: sortBy: numbers of pieces, fewer than 20, in the order of their places. -/
namespace Go.Proofs.Ytlbbabojejimpaa
open Go.RowKit Go.Lib Go.Shelf Go.Sort

set_option maxHeartbeats 1000000 in
theorem compare_any (x y : Int) (w : World) : Calls Try.prog 54 #[.int .i64 x, .int .i64 y] w fun e w' => e = .returned (.int .i64 (Lib.compareInt x y)) ∧ w' = w := by
  go_enter Try.func54, Try.ntmps54
  go_wp2
  all_goals (go_ret; refine ⟨?_, rfl⟩; unfold Lib.compareInt; (repeat' split) <;> first | rfl | (exfalso; omega))

/-- Where a piece's place lies. -/
def PlAt (w : World) (t : Tb) (i : Nat) (p : Pc) : Prop := ∃ g o, t.qp = some ⟨g, o, none⟩ ∧ w.cell? ⟨g, o + i * 14 + 6, none⟩ = some (.int .i64 p.pl)
theorem TabIn.pl {w : World} {t : Tb} {xs : List Cd} {ps : List Pc} (h : TabIn w t xs ps) {i : Nat} {p : Pc} (hi : ps[i]? = some p) : PlAt w t i p := by
  obtain ⟨g, o, hq, -, hc⟩ := h.piece hi
  exact ⟨g, o, hq, hc 6 _ rfl⟩
set_option maxHeartbeats 1000000 in
theorem key_any (t : Tb) (i B : Nat) (p : Pc) (w : World) (hil : i < t.np) (hP : PlAt w t i p) (hB : w.cell? ⟨B, 1, none⟩ = some (.slice t.qp t.np t.cp)) :
    Calls Try.prog 44 #[.int .i64 i, .pointer (some ⟨B, 0, none⟩)] w fun e w' => e = .returned (.int .i64 p.pl) ∧ w' = w := by
  obtain ⟨g, o, hq, c6⟩ := hP
  have i0 : (0 : Int) ≤ (i : Int) := by omega
  have i1 : (i : Int) < (t.np : Int) := by omega
  rw [hq] at hB
  go_enter Try.func44, Try.ntmps44
  go_wp2_with fail
  go_ret
  exact ⟨rfl, rfl⟩

def keyV (B : Nat) : Value := .func (.func 44) #[] #[.pointer (some ⟨B, 0, none⟩)]
set_option maxHeartbeats 1000000 in
set_option maxRecDepth 100000 in
theorem less_any (t : Tb) (i j K B : Nat) (p q : Pc) (w : World) (hil : i < t.np) (hjl : j < t.np) (hi : PlAt w t i p) (hj : PlAt w t j q) (hB : w.cell? ⟨B, 1, none⟩ = some (.slice t.qp t.np t.cp)) (hK : w.cell? ⟨K, 0, none⟩ = some (keyV B)) :
    Calls Try.prog 53 #[.int .i64 i, .int .i64 j, .pointer (some ⟨K, 0, none⟩)] w fun e w' => e = .returned (.int .i64 (Lib.compareInt p.pl q.pl)) ∧ ∃ n, w' = w.drewN n := by
  have h1 : Hid (∀ n, Calls Try.prog 44 #[.int .i64 i, .pointer (some ⟨B, 0, none⟩)] (w.drewN n) fun e w' => e = .returned (.int .i64 p.pl) ∧ w' = w.drewN n) := Lib.hid fun n => key_any t i B p _ hil hi hB
  have h2 : Hid (∀ n, Calls Try.prog 44 #[.int .i64 j, .pointer (some ⟨B, 0, none⟩)] (w.drewN n) fun e w' => e = .returned (.int .i64 q.pl) ∧ w' = w.drewN n) := Lib.hid fun n => key_any t j B q _ hjl hj hB
  obtain ⟨a, ha⟩ : ∃ a, p.pl = a := ⟨_, rfl⟩
  obtain ⟨b, hb⟩ : ∃ b, q.pl = b := ⟨_, rfl⟩
  rw [ha] at h1
  rw [hb] at h2
  rw [ha, hb]
  have h3 := Lib.hid fun n => compare_any a b (w.drewN n)
  obtain ⟨r, hr⟩ : ∃ r, Lib.compareInt a b = r := ⟨_, rfl⟩
  rw [hr] at h3 ⊢
  clear hi hj hB ha hb hr hil hjl
  unfold keyV at hK
  have eg : ∀ args w, (callFunc 44 args).run Try.prog w = .ok (.enter 44 args) w := enters_of Try.func44 (by kernel_rfl) rfl
  go_enter Try.func53, Try.ntmps53
  go_wp2_with fail
  go_quiet (first
    | (go_at_fn 44; first | (refine Calls.quiet_of_same (h1.out _)) | (refine Calls.quiet_of_same (h2.out _)))
    | (refine Calls.quiet_of_same (h3.out _)))
  go_wp2_with fail
  go_ret
  exact ⟨rfl, nq, rfl⟩

/-- A number of a piece. -/
def idV (i : Nat) : Value := .int .i64 (i : Int)
theorem list_fin {n : Nat} : ∀ l : List Nat, (∀ i ∈ l, i < n) → ∃ L : List (Fin n), L.map (·.val) = l
  | [], _ => ⟨[], rfl⟩
  | x :: l, h => by
    obtain ⟨L, hL⟩ := list_fin l fun i hi => h i (List.mem_cons_of_mem _ hi)
    exact ⟨⟨x, h x List.mem_cons_self⟩ :: L, by simp [hL]⟩
def plI (ps : List Pc) (i : Nat) : Int := match ps[i]? with
  | some p => p.pl
  | none => 0
theorem plI_at {ps : List Pc} {i : Nat} {p : Pc} (h : ps[i]? = some p) : plI ps i = p.pl := by unfold plI; rw [h]
theorem ltOf_compare (a b : Int) : decide (Lib.compareInt a b < 0) = decide (a < b) := by
  unfold Lib.compareInt
  split
  · rename_i h; simp [h]
  · rename_i h
    split <;> simp [h]
theorem swo_pl {n : Nat} (f : Fin n → Int) : SWO (ltOf fun x y => Lib.compareInt (f x) (f y)) := by
  refine ⟨fun x => ?_, fun x y z => ?_, fun x y z => ?_⟩ <;> simp only [ltOf, ltOf_compare, decide_eq_true_eq, decide_eq_false_iff_not] <;> omega
theorem holds_block {α : Type} [Inhabited α] {enc : α → Value} {w : World} {g : Nat} {cur : Array Value} {e : TypeId} {ss : List α} (hb : w.heap[g]? = some (.cells cur e (0, 0))) (ht : cur.toList.take ss.length = ss.map enc) : Holds enc w g 0 ss.toArray := by
  intro j hj
  have hj' : j < ss.length := by simpa using hj
  refine ⟨?_, by simp [World.frozen?, hb]⟩
  have h1 : (cur.toList.take ss.length)[j]? = (ss.map enc)[j]? := by rw [ht]
  rw [List.getElem?_take_of_lt hj'] at h1
  simp only [World.cell?, hb, Nat.zero_add]
  simp only [Option.isSome_none, Bool.false_eq_true, if_false]
  rw [← Array.getElem?_toList, h1]
  simp [hj']
theorem take_put {α : Type} [Inhabited α] {enc : α → Value} (cur : Array Value) (ts : List α) (h : ts.length ≤ cur.size) : (putCells enc 0 ts.toArray cur).toList.take ts.length = ts.map enc := by
  apply List.ext_getElem?
  intro j
  by_cases hj : j < ts.length
  · rw [List.getElem?_take_of_lt hj, Array.getElem?_toList]
    simp [putCells, hj, show j < cur.size by omega]
  · rw [List.getElem?_take_eq_none (by omega), List.getElem?_eq_none (by simp; omega)]
theorem heap_put {α : Type} [Inhabited α] {enc : α → Value} {w : World} {g n : Nat} {cur : Array Value} {e : TypeId} {fr : Nat × Nat} (d : Array α) (hb : w.heap[g]? = some (.cells cur e fr)) :
    ((putRow enc w g 0 d).drewN n).heap[g]? = some (.cells (putCells enc 0 d cur) e fr) := by
  simp [putRow, mapBlock, Array.getElem?_modify, hb, onCells, World.drewN]
theorem kept_put {α : Type} [Inhabited α] {enc : α → Value} {w : World} {g n : Nat} (d : Array α) : Kept g w ((putRow enc w g 0 d).drewN n) := by
  refine ⟨rfl, rfl, rfl, by simp [putRow, mapBlock, World.drewN], fun k hk hne => ?_⟩
  have : g ≠ k := fun e => hne e.symm
  simp [putRow, mapBlock, Array.getElem?_modify, this, World.drewN]
theorem cell_sortWorld {α : Type} [Inhabited α] {enc : α → Value} {w : World} {g m : Nat} {dk : Array α} {os : Array Obj} {a : Addr} {v : Value} (hne : a.block ≠ g) (h : w.cell? a = some v) : (sortWorld enc w g 0 m dk os).cell? a = some v := by
  unfold sortWorld
  have hlt := World.block_lt_of_cell? _ _ h
  rw [cell?_grow _ _ _ (by simpa [putRow, mapBlock, Sort.ahead] using hlt), cell?_putRow_other _ _ _ _ _ _ (.inl hne), cell?_ahead]
  exact h

set_option maxHeartbeats 2000000 in
theorem bsort_few (t : Tb) (xs : List Cd) (ps : List Pc) (ids : List Nat) (g cap B : Nat) (cur : Array Value) (w : World) (hT : TabIn w t xs ps) (hids : ∀ i ∈ ids, i < ps.length) (hne : ids ≠ []) (hlen : ids.length < 20) (hB : w.cell? ⟨B, 1, none⟩ = some (.slice t.qp t.np t.cp)) (hBg : B ≠ g)
    (hpg : ∀ a, t.qp = some a → a.block ≠ g) (hg : w.heap[g]? = some (.cells cur 3 (0, 0))) (hcur : ids.length ≤ cur.size) (htake : cur.toList.take ids.length = ids.map idV) :
    Calls Try.prog 43 #[.slice (some ⟨g, 0, none⟩) ids.length cap, keyV B] w fun e w' => e = .returned (.tuple #[]) ∧ Kept g w w' ∧
      ∃ (out : List Nat) (cur' : Array Value), out.Perm ids ∧ (∀ i j, i < j → j < out.length → plI ps (out.getD i 0) ≤ plI ps (out.getD j 0)) ∧ w'.heap[g]? = some (.cells cur' 3 (0, 0)) ∧ cur'.size = cur.size ∧ cur'.toList.take ids.length = out.map idV := by
  obtain ⟨K, hKs⟩ : ∃ K, w.heap.size = K := ⟨_, rfl⟩
  obtain ⟨w1, hw1⟩ : ∃ w1, w1 = w.alloc (.cells #[keyV B] 68) := ⟨_, rfl⟩
  have b1 : Below w.heap.size w w1 := by rw [hw1]; exact (Below.refl _ _).alloc (Nat.le_refl _) _
  have hglt := heap_lt hg
  have hK1 : w1.cell? ⟨K, 0, none⟩ = some (keyV B) := by rw [hw1, ← hKs]; exact cell_blk (i := 0) (heap_alloc_new _ _)
  have hg1 : w1.heap[g]? = some (.cells cur 3 (0, 0)) := (b1.block _ hglt).trans hg
  have hT1 := hT.below b1
  have hB1 : w1.cell? ⟨B, 1, none⟩ = some (.slice t.qp t.np t.cp) := cell_later b1 hB
  have hKg : K ≠ g := by omega
  have hcall : Calls Try.prog 52 #[.slice (some ⟨g, 0, none⟩) ids.length cap, .func (.func 53) #[] #[.pointer (some ⟨K, 0, none⟩)]] w1 fun e w' => e = .returned (.tuple #[]) ∧ Kept g w1 w' ∧
      ∃ (out : List Nat) (cur' : Array Value), out.Perm ids ∧ (∀ i j, i < j → j < out.length → plI ps (out.getD i 0) ≤ plI ps (out.getD j 0)) ∧ w'.heap[g]? = some (.cells cur' 3 (0, 0)) ∧ cur'.size = cur.size ∧ cur'.toList.take ids.length = out.map idV := by
    have h0 : 0 < ps.length := by
      cases ids with
      | nil => exact absurd rfl hne
      | cons x l => have := hids x List.mem_cons_self; omega
    have : Inhabited (Fin ps.length) := ⟨⟨0, by omega⟩⟩
    obtain ⟨L, hL⟩ := list_fin ids hids
    have hLl : L.length = ids.length := by rw [← hL, List.length_map]
    have hcmp : CmpReads Try.prog 53 #[.pointer (some ⟨K, 0, none⟩)] (fun i : Fin ps.length => idV i.val) (fun x y => Lib.compareInt (plI ps x.val) (plI ps y.val)) g 0 L.toArray.size w1 := by
      intro m os dk _ x y
      have hx : ps[x.val]? = some ps[x.val] := List.getElem?_eq_getElem _
      have hy : ps[y.val]? = some ps[y.val] := List.getElem?_eq_getElem _
      show Calls _ _ _ _ fun e w' => e = .returned (.int .i64 (Lib.compareInt (plI ps x.val) (plI ps y.val))) ∧ ∃ q, w' = _
      rw [plI_at hx, plI_at hy]
      have hpl : ∀ (i : Nat) (p : Pc), ps[i]? = some p → PlAt (sortWorld (fun i : Fin ps.length => idV i.val) w1 g 0 m dk os) t i p := fun i p hi => by
        obtain ⟨g', o, hq, hc⟩ := hT1.pl hi
        exact ⟨g', o, hq, cell_sortWorld (a := ⟨g', o + i * 14 + 6, none⟩) (hpg ⟨g', o, none⟩ hq) hc⟩
      exact less_any t x.val y.val K B _ _ _ (by rw [hT.np.1]; exact x.isLt) (by rw [hT.np.1]; exact y.isLt) (hpl _ _ hx) (hpl _ _ hy) (cell_sortWorld hBg hB1) (cell_sortWorld hKg hK1)
    have hH : Holds (fun i : Fin ps.length => idV i.val) w1 g 0 L.toArray := holds_block hg1 (by rw [hLl, htake, ← hL, List.map_map]; rfl)
    have hs := stableFunc_few (fun i : Fin ps.length => idV i.val) (fun _ => rfl) (fun x y => Lib.compareInt (plI ps x.val) (plI ps y.val)) 53 _ g cap L.toArray w1 (enters_of Try.func53 (by kernel_rfl) rfl) hcmp hH (by simp [hLl]; exact hlen)
    rw [show L.toArray.size = ids.length by simp [hLl]] at hs
    refine hs.mono ?_
    rintro e w' ⟨rfl, n, rfl⟩
    obtain ⟨⟨hp1, hp2, hp3⟩, hsort⟩ := insertionSort_holds (lt := ltOf fun x y : Fin ps.length => Lib.compareInt (plI ps x.val) (plI ps y.val)) (swo_pl _) L.toArray 0 ids.length (Nat.zero_le _) (by simp [hLl])
    obtain ⟨D, hD⟩ : ∃ D, D = Sort.insertionSort (ltOf fun x y : Fin ps.length => Lib.compareInt (plI ps x.val) (plI ps y.val)) L.toArray 0 ids.length := ⟨_, rfl⟩
    rw [← hD] at hp1 hp3 hsort ⊢
    have hDs : D.size = ids.length := by rw [hp1]; simp [hLl]
    have hDl : D.toList.length = ids.length := by simpa using hDs
    refine ⟨rfl, kept_put _, D.toList.map (·.val), putCells (fun i : Fin ps.length => idV i.val) 0 D cur, ?_, ?_, heap_put _ hg1, by simp [putCells], ?_⟩
    · rw [← hL]
      apply List.Perm.map
      have e1 : D.extract 0 ids.length = D := by rw [← hDs]; simp
      have e2 : L.toArray.extract 0 ids.length = L.toArray := by rw [← hLl]; simp
      rw [e1, e2] at hp3
      exact hp3
    · intro i j hij hj
      have hj' : j < ids.length := by simpa [hDs] using hj
      have := hsort i j (Nat.zero_le _) hij hj'
      simp only [ltOf, ltOf_compare, decide_eq_false_iff_not] at this
      have gi : ∀ k, k < ids.length → (D.toList.map (·.val)).getD k 0 = (D[k]!).val := by
        intro k hk
        rw [List.getD_eq_getElem?_getD, List.getElem?_map, Array.getElem?_toList, Array.getElem?_eq_getElem (by omega), getElem!_pos D k (by omega)]
        rfl
      rw [gi i (by omega), gi j hj']
      omega
    · have := take_put (enc := fun i : Fin ps.length => idV i.val) cur D.toList (by rw [hDl]; exact hcur)
      rw [hDl] at this
      rw [List.map_map]
      exact this
  have HC := Lib.hid hcall
  have HKs := Lib.hid hKs
  have HW := Lib.hid hw1
  have B1 := Lib.hid b1
  clear hcall hT hB hg hg1 hT1 hB1 hK1 b1 htake hids hKs hw1
  unfold keyV at *
  go_enter Try.func43, Try.ntmps43
  go_wp2_with fail
  rw [← HW.out]
  rw [HKs.out]
  refine HC.out.mono ?_
  rintro e w2 ⟨rfl, k2, hout⟩
  have HO := Lib.hid hout
  have K2 : Hid (Kept g w w2) := Lib.hid ((Kept.of_below B1.out).trans k2)
  clear hout k2
  go_wp2_with fail
  go_end0
  exact ⟨rfl, K2.out, HO.out⟩
end Go.Proofs.Ytlbbabojejimpaa
