import Derived.Test.YtbkjminjkjnkpaaGreatDoorQDkMem
import Derived.RegionTactic
import Derived.ChangeAlike
import Derived.BigRegion
/- Layer 5 (decks): the small calls of a reader of decks. -/
namespace Go.Proofs.YtbkjminjkjnkpaaGreatDoor
open Go.RowKit Go.Lib

theorem DRd.cells {w : World} {E : DE} {p : Nat} (h : DRd w E p) : w.cell? ⟨E.R, 0, none⟩ = some (.slice (some ⟨E.G, p * 4, none⟩) (E.n - p) (E.cap - p)) ∧ w.cell? ⟨E.R, 1, none⟩ = some (.map (some E.M)) ∧ w.frozen? ⟨E.R, 0, none⟩ = false :=
  ⟨by rw [cell_blk h.rd]; rfl, by rw [cell_blk h.rd]; rfl, free_blk h.rd⟩

set_option maxHeartbeats 1000000 in
set_option maxRecDepth 100000 in
theorem dnext_any (E : DE) (p : Nat) (w : World) (h : DRd w E p) :
    Calls Tryz.prog 19 #[.pointer (some ⟨E.R, 0, none⟩)] w fun e w' => e = .returned (.agg #[.int .u8 (tk E.ts p).kind, .string (tk E.ts p).text, .int .i64 (tk E.ts p).spot.1, .int .i64 (tk E.ts p).spot.2]) ∧ Below w.heap.size w w' := by
  have hp := h.lt
  obtain ⟨c0, -, -⟩ := h.cells
  obtain ⟨a0, a1, a2, a3⟩ := h.env.toks _ _ (tk_get hp)
  have hg := heap_lt h.rd
  have hG := World.block_lt_of_cell? _ _ a0
  have hcap := h.env.fit
  unfold maxLen at hcap
  generalize tk E.ts p = t at *
  obtain ⟨k, x, l, c⟩ := t
  simp only [] at *
  clear h
  generalize E.n = n at *
  generalize E.cap = cap at *
  generalize E.R = R at *
  generalize E.G = G at *
  have hlt : (0 : Int) < ((n - p : Nat) : Int) := by omega
  go_enter Tryz.func19, Tryz.ntmps19
  go_wp2
  refine bodyPost_ret (v := .agg #[.int .u8 k, .string x, .int .i64 l, .int .i64 c]) (by simp [results, Tryz.results19, go_sem]) rfl ⟨rfl, ?_⟩
  exact (by repeat (first | (with_reducible exact Below.refl _ _) | (with_reducible assumption) | ((with_reducible refine Below.setCell ?_ ?_ _); rotate_left; focus (simp; done)) | ((with_reducible refine Below.alloc ?_ ?_ _); rotate_left; focus (simp; done)) | (with_reducible refine Below.drew ?_)))

set_option maxRecDepth 100000 in
/-- The next token is passed: it is not the last. -/
theorem dpass_on (E : DE) (p : Nat) (w : World) (h : DRd w E p) (hp : p + 1 < E.n) :
    Calls Tryz.prog 76 #[.pointer (some ⟨E.R, 0, none⟩)] w fun e w' => e = .returned (.tuple #[]) ∧ DGoes w E (p + 1) w' := by
  obtain ⟨c0, -, f0⟩ := h.cells
  have hg := heap_lt h.rd
  have hcap := h.env.fit
  unfold maxLen at hcap
  have HH := Lib.hid h
  clear h
  have hn : (1 : Int) < ((E.n - p : Nat) : Int) := by omega
  have e1 : p * 4 + 4 = (p + 1) * 4 := by omega
  have e2 : E.n - p - 1 = E.n - (p + 1) := by omega
  have e3 : E.cap - p - 1 = E.cap - (p + 1) := by omega
  have hsl : Hid (DGoes w E (p + 1) (w.setCell ⟨E.R, 0, none⟩ (.slice (some ⟨E.G, p * 4 + 4, none⟩) (E.n - p - 1) (E.cap - p - 1)))) := by
    have k := (Kept.refl E.R w).setCell (p := ⟨E.R, 0, none⟩) (.inl rfl) (.slice (some ⟨E.G, (p + 1) * 4, none⟩) (E.n - (p + 1)) (E.cap - (p + 1)))
    rw [e1, e2, e3]
    exact ⟨⟨HH.out.env.kept k, heap_set HH.out.rd _, hp⟩, k⟩
  clear e1 e2 e3
  have hc2 : 1 ≤ E.n - p := by omega
  have hc3 : E.n - p ≤ E.cap - p := by omega
  have hc4 : 1 < E.cap - p := by omega
  go_enter Tryz.func76, Tryz.ntmps76
  go_wp2
  go_end0
  exact ⟨rfl, hsl.out⟩

theorem dtokf (k : Nat) (x : ByteArray) (l c : Int) : (∀ w : World, (Instr.field 66 (.agg #[.int .u8 k, .string x, .int .i64 l, .int .i64 c]) 0).run Tryz.prog w = .ok (.int .u8 k) w) ∧
    (∀ w : World, (Instr.field 66 (.agg #[.int .u8 k, .string x, .int .i64 l, .int .i64 c]) 1).run Tryz.prog w = .ok (.string x) w) ∧
    (∀ w : World, (Instr.field 66 (.agg #[.int .u8 k, .string x, .int .i64 l, .int .i64 c]) 2).run Tryz.prog w = .ok (.agg #[.int .i64 l, .int .i64 c]) w) := ⟨fun _ => by kernel_rfl, fun _ => by kernel_rfl, fun _ => by kernel_rfl⟩

set_option maxHeartbeats 1000000 in
set_option maxRecDepth 100000 in
theorem dskip_yes (E : DE) (p : Nat) (w : World) (h : DRd w E p) (x : ByteArray) (hx : (tk E.ts p).text = x) (hp : p + 1 < E.n) :
    Calls Tryz.prog 60 #[.pointer (some ⟨E.R, 0, none⟩), .string x] w fun e w' => e = .returned (.bool true) ∧ DGoes w E (p + 1) w' := by
  have hnext := dnext_any E p w h
  have HN := Lib.hid hnext
  have hq : Hid (∀ w1, Below w.heap.size w w1 → Calls Tryz.prog 76 #[.pointer (some ⟨E.R, 0, none⟩)] w1 fun e w' => e = .returned (.tuple #[]) ∧ DGoes w1 E (p + 1) w') := fun w1 b => dpass_on E p w1 (h.below b) hp
  clear hnext h
  subst hx
  generalize tk E.ts p = t at *
  obtain ⟨k, x, l, c⟩ := t
  obtain ⟨-, hf, -⟩ := dtokf k x l c
  have q1 := str_eq (rfl : x = x)
  go_enter Tryz.func60, Tryz.ntmps60
  go_wp2_with fail
  refine HN.out.mono ?_
  rintro e w1 ⟨rfl, b1⟩
  have B1 := Lib.hid b1
  clear b1
  go_wp2_with fail
  refine (hq.out _ B1.out).mono ?_
  rintro e w2 ⟨rfl, g⟩
  have GG := Lib.hid g
  clear g
  go_wp2
  go_ret
  exact ⟨rfl, GG.out.of_below B1.out⟩
set_option maxHeartbeats 1000000 in
set_option maxRecDepth 100000 in
theorem dskip_no (E : DE) (p : Nat) (w : World) (h : DRd w E p) (x : ByteArray) (hx : (tk E.ts p).text ≠ x) :
    Calls Tryz.prog 60 #[.pointer (some ⟨E.R, 0, none⟩), .string x] w fun e w' => e = .returned (.bool false) ∧ Below w.heap.size w w' := by
  have hnext := dnext_any E p w h
  have HN := Lib.hid hnext
  clear hnext h
  generalize tk E.ts p = t at *
  obtain ⟨k, y, l, c⟩ := t
  simp only [] at hx
  obtain ⟨-, hf, -⟩ := dtokf k y l c
  have q1 := str_ne hx
  clear hx
  go_enter Tryz.func60, Tryz.ntmps60
  go_wp2_with fail
  refine HN.out.mono ?_
  rintro e w1 ⟨rfl, b1⟩
  have B1 := Lib.hid b1
  clear b1
  go_wp2
  go_ret
  exact ⟨rfl, B1.out⟩

/-- What count answers at a number. -/
theorem dtok_wf {w : World} {E : DE} {p : Nat} (h : DRd w E p) : WTok (tk E.ts p) := h.env.wf.all _ (tk_mem h.lt)
theorem dtok_more {w : World} {E : DE} {p : Nat} (h : DRd w E p) (hk : (tk E.ts p).kind ≠ 0) : p + 1 < E.n := by
  have := (h.env.wf.last p h.lt)
  have hl := h.lt
  unfold DE.n at *
  by_cases e : p + 1 = E.ts.length
  · exact absurd (this.2 e) hk
  · omega
set_option maxHeartbeats 1000000 in
set_option maxRecDepth 100000 in
theorem dcount_yes (E : DE) (p : Nat) (w : World) (h : DRd w E p) (hk : (tk E.ts p).kind = 2) (h1 : 1 ≤ numK (tk E.ts p).kt) (h3 : numK (tk E.ts p).kt ≤ 3) :
    Calls Tryz.prog 61 #[.pointer (some ⟨E.R, 0, none⟩)] w fun e w' => e = .returned (.tuple #[.int .i64 (numK (tk E.ts p).kt), .int .i64 0]) ∧ DGoes w E (p + 1) w' := by
  have hnext := dnext_any E p w h
  have HN := Lib.hid hnext
  have hp := dtok_more h (by omega)
  have hwt := dtok_wf h
  have hq : Hid (∀ w1, Below w.heap.size w w1 → Calls Tryz.prog 76 #[.pointer (some ⟨E.R, 0, none⟩)] w1 fun e w' => e = .returned (.tuple #[]) ∧ DGoes w1 E (p + 1) w') := fun w1 b => dpass_on E p w1 (h.below b) hp
  have ha : Hid (∀ W, Calls Tryz.prog 77 #[.string (tk E.ts p).text] W fun e w' => e = .returned (.tuple #[.int .i64 (numK (tk E.ts p).kt), .nilIface]) ∧ Below W.heap.size W w') := fun W => atoi_num (tk E.ts p).text (hwt.some (by omega)) (hwt.num hk).1 (hwt.num hk).2 hwt.size W
  clear hnext h hwt hk hp
  generalize numK (tk E.ts p).kt = N at *
  generalize tk E.ts p = t at *
  obtain ⟨k, x, l, c⟩ := t
  obtain ⟨-, hf, -⟩ := dtokf k x l c
  simp only [] at ha
  have q1 : ¬ (N : Int) < 1 := by omega
  have q2 : ¬ (N : Int) > 3 := by omega
  go_enter Tryz.func61, Tryz.ntmps61
  go_wp2_with fail
  refine HN.out.mono ?_
  rintro e w1 ⟨rfl, b1⟩
  have B1 := Lib.hid b1
  clear b1
  go_wp2_with fail
  refine (ha.out _).mono ?_
  rintro e w2 ⟨rfl, b2⟩
  have B2 : Hid (Below w.heap.size w w2) := B1.out.trans (b2.mono B1.out.size)
  clear b2
  go_wp2_with fail
  refine (hq.out _ B2.out).mono ?_
  rintro e w3 ⟨rfl, g⟩
  have GG := Lib.hid g
  clear g
  go_wp2
  go_ret2
  exact ⟨rfl, GG.out.of_below B2.out⟩
set_option maxHeartbeats 1000000 in
set_option maxRecDepth 100000 in
theorem dcount_no (E : DE) (p : Nat) (w : World) (h : DRd w E p) (hk : (tk E.ts p).kind = 2) (h1 : numK (tk E.ts p).kt < 1 ∨ 3 < numK (tk E.ts p).kt) :
    Calls Tryz.prog 61 #[.pointer (some ⟨E.R, 0, none⟩)] w fun e w' => e = .returned (.tuple #[.int .i64 0, .int .i64 3]) ∧ Below w.heap.size w w' := by
  have hnext := dnext_any E p w h
  have HN := Lib.hid hnext
  have hwt := dtok_wf h
  have ha : Hid (∀ W, Calls Tryz.prog 77 #[.string (tk E.ts p).text] W fun e w' => e = .returned (.tuple #[.int .i64 (numK (tk E.ts p).kt), .nilIface]) ∧ Below W.heap.size W w') := fun W => atoi_num (tk E.ts p).text (hwt.some (by omega)) (hwt.num hk).1 (hwt.num hk).2 hwt.size W
  clear hnext h hwt hk
  generalize numK (tk E.ts p).kt = N at *
  generalize tk E.ts p = t at *
  obtain ⟨k, x, l, c⟩ := t
  obtain ⟨-, hf, -⟩ := dtokf k x l c
  simp only [] at ha
  rcases h1 with h1 | h1
  · obtain rfl : N = 0 := by omega
    clear h1
    go_enter Tryz.func61, Tryz.ntmps61
    go_wp2_with fail
    refine HN.out.mono ?_
    rintro e w1 ⟨rfl, b1⟩
    have B1 := Lib.hid b1
    clear b1
    go_wp2_with fail
    refine (ha.out _).mono ?_
    rintro e w2 ⟨rfl, b2⟩
    have B2 : Hid (Below w.heap.size w w2) := B1.out.trans (b2.mono B1.out.size)
    clear b2
    go_wp2
    go_ret2
    exact ⟨rfl, B2.out⟩
  · have q1 : ¬ (N : Int) < 1 := by omega
    have q2 : (N : Int) > 3 := by omega
    go_enter Tryz.func61, Tryz.ntmps61
    go_wp2_with fail
    refine HN.out.mono ?_
    rintro e w1 ⟨rfl, b1⟩
    have B1 := Lib.hid b1
    clear b1
    go_wp2_with fail
    refine (ha.out _).mono ?_
    rintro e w2 ⟨rfl, b2⟩
    have B2 : Hid (Below w.heap.size w w2) := B1.out.trans (b2.mono B1.out.size)
    clear b2
    go_wp2
    go_ret2
    exact ⟨rfl, B2.out⟩

/-- What kind answers. -/
def kindOf (ns : List ByteArray) (t : KT) (out : List Nat) : Nat × Nat :=
  if t.1 = 1 then (match findW ns t.2 0 with
    | none => (8, 0)
    | some k => if k ∈ out then (7, 0) else (0, k))
  else (5, 0)
def stepOf (e : Nat) : Nat := if e = 0 then 1 else 0
theorem findW_lt : ∀ (ns : List ByteArray) (x : ByteArray) (k : Nat), findW ns x 0 = some k → k < ns.length := fun ns x k h => by
  have := (findW_get ns x 0 k h).1
  exact (List.getElem?_eq_some_iff.1 (by simpa using this)).1

set_option maxHeartbeats 2000000 in
set_option maxRecDepth 100000 in
theorem dkind_any (E : DE) (p : Nat) (w : World) (h : DRd w E p) (T : Nat) (out : List Nat) (n : Nat) (hT : ToldAt w T out n) (hTR : T ≠ E.R) :
    Calls Tryz.prog 62 #[.pointer (some ⟨E.R, 0, none⟩), .map (some T)] w fun e w' => e = .returned (.tuple #[.int .i64 (kindOf E.ns (tk E.ts p).kt out).2, .int .i64 (kindOf E.ns (tk E.ts p).kt out).1]) ∧ DGoes w E (p + stepOf (kindOf E.ns (tk E.ts p).kt out).1) w' := by
  have hnext := dnext_any E p w h
  have HN := Lib.hid hnext
  have hwt := dtok_wf h
  have HH := Lib.hid h
  have HT := Lib.hid hT
  have hq : Hid (∀ w1, Below w.heap.size w w1 → (tk E.ts p).kind ≠ 0 → Calls Tryz.prog 76 #[.pointer (some ⟨E.R, 0, none⟩)] w1 fun e w' => e = .returned (.tuple #[]) ∧ DGoes w1 E (p + 1) w') := fun w1 b hk => dpass_on E p w1 (h.below b) (dtok_more h hk)
  have hsz : (tk E.ts p).text.size ≤ maxLen := by have := hwt.size; unfold maxLen; omega
  have hfew := h.env.few
  have hl : Hid (∀ W, W.heap[E.M]? = w.heap[E.M]? → (Instr.lookup 59 (.map (some E.M)) (.string (tk E.ts p).text) true).run Tryz.prog W = .ok (.tuple #[.int .i64 ((findW E.ns (tk E.ts p).text 0).getD 0 : Nat), .bool (findW E.ns (tk E.ts p).text 0).isSome]) W) := fun W hW => by
    obtain ⟨m, hm⟩ := h.env.map
    exact places_look (hm.same hW) _ hsz
  have hM : E.M < w.heap.size := by obtain ⟨m, hm⟩ := h.env.map; exact hm.lt
  clear hnext h hwt hT hsz
  have hKO : ∀ t : Tok, kindOf E.ns t.kt out = (if t.kind = 1 then (match findW E.ns t.text 0 with
    | none => (8, 0)
    | some k => if k ∈ out then (7, 0) else (0, k)) else (5, 0)) := fun _ => rfl
  rw [hKO]
  clear hKO
  generalize tk E.ts p = t at *
  obtain ⟨k, x, l, c⟩ := t
  simp only [] at hl hq ⊢
  by_cases hk : k = 1
  · subst hk
    rw [if_pos rfl]
    have q1 : (((1 : Nat) : Int) != 1) = false := by decide
    have hfl := findW_lt E.ns x
    have hdf := (dtokf 1 x l c)
    clear hdf
    cases hf : findW E.ns x 0 with
    | none =>
      rw [hf] at hl
      simp only [Option.getD_none, Option.isSome_none] at hl
      have HL := Lib.hid hl.out
      clear hl hfl hf
      go_enter Tryz.func62, Tryz.ntmps62
      go_wp2_with fail
      refine HN.out.mono ?_
      rintro e w1 ⟨rfl, b1⟩
      have c1 := ((HH.out.below b1).cells).2.1
      have hl1 := HL.out (w1.alloc (.cells #[.int .u8 1, .string x, .int .i64 l, .int .i64 c] 66)) ((Below.heap_alloc _ _ _ (Nat.lt_of_lt_of_le hM b1.size)).trans (b1.block _ hM))
      have hl2 := HL.out (w1.alloc (.cells #[.int .u8 1, .string x, .int .i64 l, .int .i64 c] 66)).drew ((Below.heap_alloc _ _ _ (Nat.lt_of_lt_of_le hM b1.size)).trans (b1.block _ hM))
      have hR1 : E.R < w1.heap.size := Nat.lt_of_lt_of_le HH.out.blk b1.size
      have B1 := Lib.hid b1
      clear b1
      go_wp2_with fail
      go_region
      go_wp2
      go_ret2
      exact ⟨rfl, (HH.out.goes).below (by repeat (first | (with_reducible exact Below.refl _ _) | (with_reducible exact B1.out) | (with_reducible assumption) | ((with_reducible refine Below.setCell ?_ ?_ _); rotate_left; focus (simp; done)) | ((with_reducible refine Below.alloc ?_ ?_ _); rotate_left; focus (first | exact Nat.le_refl _ | exact B1.out.size | (simp; done) | (have := B1.out.size; simp; omega))) | (with_reducible refine Below.drew ?_)))⟩
    | some j =>
      rw [hf] at hl
      simp only [Option.getD_some, Option.isSome_some] at hl
      have hj : j ≤ maxLen := Nat.le_trans (Nat.le_of_lt (hfl j hf)) hfew
      have HL := Lib.hid hl.out
      have HJ := Lib.hid hj
      clear hl hfl hf hj hfew
      by_cases ho : j ∈ out
      · simp only [if_pos ho]
        go_enter Tryz.func62, Tryz.ntmps62
        go_wp2_with fail
        refine HN.out.mono ?_
        rintro e w1 ⟨rfl, b1⟩
        have c1 := ((HH.out.below b1).cells).2.1
        have hl2 := HL.out (w1.alloc (.cells #[.int .u8 1, .string x, .int .i64 l, .int .i64 c] 66)).drew ((Below.heap_alloc _ _ _ (Nat.lt_of_lt_of_le hM b1.size)).trans (b1.block _ hM))
        have hR1 : E.R < w1.heap.size := Nat.lt_of_lt_of_le HH.out.blk b1.size
        obtain ⟨v, hv, hvo⟩ := told_look (w := (w1.alloc (.cells #[.int .u8 1, .string x, .int .i64 l, .int .i64 c] 66)).drew) (HT.out.same ((Below.heap_alloc _ _ _ (Nat.lt_of_lt_of_le HT.out.lt b1.size)).trans (b1.block _ HT.out.lt))) j HJ.out
        have hv0 : v > 0 := hvo.2 ho
        have B1 := Lib.hid b1
        clear b1 hvo ho
        go_wp2_with fail
        go_region
        go_wp2
        go_ret2
        exact ⟨rfl, (HH.out.goes).below (by repeat (first | (with_reducible exact Below.refl _ _) | (with_reducible exact B1.out) | (with_reducible assumption) | ((with_reducible refine Below.setCell ?_ ?_ _); rotate_left; focus (simp; done)) | ((with_reducible refine Below.alloc ?_ ?_ _); rotate_left; focus (first | exact Nat.le_refl _ | exact B1.out.size | (simp; done) | (have := B1.out.size; simp; omega))) | (with_reducible refine Below.drew ?_)))⟩
      · simp only [if_neg ho]
        go_enter Tryz.func62, Tryz.ntmps62
        go_wp2_with fail
        refine HN.out.mono ?_
        rintro e w1 ⟨rfl, b1⟩
        have c1 := ((HH.out.below b1).cells).2.1
        have hl2 := HL.out (w1.alloc (.cells #[.int .u8 1, .string x, .int .i64 l, .int .i64 c] 66)).drew ((Below.heap_alloc _ _ _ (Nat.lt_of_lt_of_le hM b1.size)).trans (b1.block _ hM))
        have hR1 : E.R < w1.heap.size := Nat.lt_of_lt_of_le HH.out.blk b1.size
        obtain ⟨v, hv, hvo⟩ := told_look (w := (w1.alloc (.cells #[.int .u8 1, .string x, .int .i64 l, .int .i64 c] 66)).drew) (HT.out.same ((Below.heap_alloc _ _ _ (Nat.lt_of_lt_of_le HT.out.lt b1.size)).trans (b1.block _ HT.out.lt))) j HJ.out
        have hv0 : ¬ v > 0 := fun e => ho (hvo.1 e)
        have B1 := Lib.hid b1
        clear b1 hvo ho
        go_wp2_with fail
        go_region
        go_wp2_with fail
        have hb0 : Below w.heap.size w (w1.alloc (.cells #[.int .u8 1, .string x, .int .i64 l, .int .i64 c] 66)).drew := (by repeat (first | (with_reducible exact Below.refl _ _) | (with_reducible exact B1.out) | (with_reducible assumption) | ((with_reducible refine Below.setCell ?_ ?_ _); rotate_left; focus (simp; done)) | ((with_reducible refine Below.alloc ?_ ?_ _); rotate_left; focus (first | exact Nat.le_refl _ | exact B1.out.size | (simp; done) | (have := B1.out.size; simp; omega))) | (with_reducible refine Below.drew ?_)))
        have HB := Lib.hid hb0
        clear hb0
        refine (hq.out _ HB.out (by decide)).mono ?_
        rintro e w2 ⟨rfl, g⟩
        have GG := Lib.hid g
        clear g
        go_wp2
        go_ret2
        exact ⟨rfl, GG.out.of_below HB.out⟩
  · rw [if_neg hk]
    have q1 : ((k : Int) != 1) = true := by simp; omega
    clear hk
    go_enter Tryz.func62, Tryz.ntmps62
    go_wp2_with fail
    refine HN.out.mono ?_
    rintro e w1 ⟨rfl, b1⟩
    have B1 := Lib.hid b1
    clear b1
    go_wp2
    go_ret2
    exact ⟨rfl, (HH.out.goes).below (by repeat (first | (with_reducible exact Below.refl _ _) | (with_reducible exact B1.out) | (with_reducible assumption) | ((with_reducible refine Below.setCell ?_ ?_ _); rotate_left; focus (simp; done)) | ((with_reducible refine Below.alloc ?_ ?_ _); rotate_left; focus (first | exact Nat.le_refl _ | exact B1.out.size | (simp; done) | (have := B1.out.size; simp; omega))) | (with_reducible refine Below.drew ?_)))⟩

/-- A deck's end: what is told of it, and how far it goes. -/
def endE (x : ByteArray) (m : Nat) : Nat := if x = ⟨#[125]⟩ then (if m < 5 ∨ 40 < m then 9 else 0) else 5
def endP (x : ByteArray) (m : Nat) : Nat := if x = ⟨#[125]⟩ ∧ ¬ (m < 5 ∨ 40 < m) then 1 else 0
set_option maxHeartbeats 1000000 in
set_option maxRecDepth 100000 in
theorem dend_any (E : DE) (p : Nat) (w : World) (h : DRd w E p) (m : Nat) (hm : m ≤ maxLen) :
    Calls Tryz.prog 64 #[.pointer (some ⟨E.R, 0, none⟩), .int .i64 (m : Int)] w fun e w' => e = .returned (.int .i64 (endE (tk E.ts p).text m)) ∧ DGoes w E (p + endP (tk E.ts p).text m) w' := by
  have hnext := dnext_any E p w h
  have HN := Lib.hid hnext
  have hwt := dtok_wf h
  have HH := Lib.hid h
  have hq : Hid (∀ w1, Below w.heap.size w w1 → (tk E.ts p).kind ≠ 0 → Calls Tryz.prog 76 #[.pointer (some ⟨E.R, 0, none⟩)] w1 fun e w' => e = .returned (.tuple #[]) ∧ DGoes w1 E (p + 1) w') := fun w1 b hk => dpass_on E p w1 (h.below b) (dtok_more h hk)
  have hk0 : (tk E.ts p).text = ⟨#[125]⟩ → (tk E.ts p).kind ≠ 0 := fun e hk => by have := hwt.none hk; rw [e] at this; exact absurd this (by decide)
  unfold maxLen at hm
  clear hnext h hwt
  generalize tk E.ts p = t at *
  obtain ⟨k, x, l, c⟩ := t
  obtain ⟨-, hf, -⟩ := dtokf k x l c
  simp only [] at hk0 hq ⊢
  by_cases hx : x = ⟨#[125]⟩
  · have hk1 := hk0 hx
    have HK := Lib.hid hk1
    clear hk0 hk1
    have q1 := str_eq_l hx
    by_cases hm1 : m < 5
    · rw [show endE x m = 9 by unfold endE; rw [if_pos hx, if_pos (.inl hm1)], show endP x m = 0 by unfold endP; rw [if_neg (fun a => a.2 (.inl hm1))]]
      clear hx
      have q2 : (m : Int) < 5 := by omega
      go_enter Tryz.func64, Tryz.ntmps64
      go_wp2_with fail
      refine HN.out.mono ?_
      rintro e w1 ⟨rfl, b1⟩
      have B1 := Lib.hid b1
      clear b1
      go_wp2
      go_ret
      exact ⟨rfl, (HH.out.goes).below B1.out⟩
    · by_cases hm2 : 40 < m
      · rw [show endE x m = 9 by unfold endE; rw [if_pos hx, if_pos (.inr hm2)], show endP x m = 0 by unfold endP; rw [if_neg (fun a => a.2 (.inr hm2))]]
        clear hx
        have q2 : ¬ (m : Int) < 5 := by omega
        have q3 : (m : Int) > 40 := by omega
        go_enter Tryz.func64, Tryz.ntmps64
        go_wp2_with fail
        refine HN.out.mono ?_
        rintro e w1 ⟨rfl, b1⟩
        have B1 := Lib.hid b1
        clear b1
        go_wp2
        go_ret
        exact ⟨rfl, (HH.out.goes).below B1.out⟩
      · rw [show endE x m = 0 by unfold endE; rw [if_pos hx, if_neg (fun a => a.elim hm1 hm2)], show endP x m = 1 by unfold endP; rw [if_pos ⟨hx, fun a => a.elim hm1 hm2⟩]]
        clear hx
        have q2 : ¬ (m : Int) < 5 := by omega
        have q3 : ¬ (m : Int) > 40 := by omega
        go_enter Tryz.func64, Tryz.ntmps64
        go_wp2_with fail
        refine HN.out.mono ?_
        rintro e w1 ⟨rfl, b1⟩
        have B1 := Lib.hid b1
        clear b1
        go_wp2_with fail
        refine (hq.out _ B1.out HK.out).mono ?_
        rintro e w2 ⟨rfl, g⟩
        have GG := Lib.hid g
        clear g
        go_wp2
        go_ret
        exact ⟨rfl, GG.out.of_below B1.out⟩
  · rw [show endE x m = 5 by unfold endE; rw [if_neg hx], show endP x m = 0 by unfold endP; rw [if_neg (fun a => hx a.1)]]
    have q1 := str_ne_l hx
    clear hx hk0
    go_enter Tryz.func64, Tryz.ntmps64
    go_wp2_with fail
    refine HN.out.mono ?_
    rintro e w1 ⟨rfl, b1⟩
    have B1 := Lib.hid b1
    clear b1
    go_wp2
    go_ret
    exact ⟨rfl, (HH.out.goes).below B1.out⟩
end Go.Proofs.YtbkjminjkjnkpaaGreatDoor
