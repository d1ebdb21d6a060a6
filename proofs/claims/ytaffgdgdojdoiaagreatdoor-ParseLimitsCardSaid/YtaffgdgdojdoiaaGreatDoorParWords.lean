/- Layer 2 (parse): a reader reads names, numbers, one of some words. -/
import Derived.Test.YtaffgdgdojdoiaaGreatDoorParCalls
namespace Go.Proofs.YtaffgdgdojdoiaaGreatDoor
open Go.RowKit Go.Lib

def NameEnds (E : Env) (s : RS) (d : Int) (w : World) (e : Ending) (w' : World) : Prop := ∃ x s', e = .returned (.string x) ∧ Res (pName E.ts) s x s' ∧ Goes w E s' d w'

set_option maxHeartbeats 1000000 in
set_option maxRecDepth 100000 in
theorem name_any (E : Env) (s : RS) (d : Int) (w : World) (h : Rd w E s d) :
    Calls Tryz.prog 40 #[.pointer (some ⟨E.R, 0, none⟩)] w (NameEnds E s d w) := by
  have hnext := next_reads E _ d w h
  have HN := Lib.hid hnext
  clear hnext
  by_cases hk : (E.tok s).kind = 1
  · cases s with
    | bad x l c => exact absurd ((tok_bad h).1.symm.trans hk) (by decide)
    | ok p =>
      have hk' : (tk E.ts p).kind = 1 := hk
      have hp := tok_ok h (by omega)
      have hq : Hid (∀ w1, Below w.heap.size w w1 → Calls Tryz.prog 74 #[.pointer (some ⟨E.R, 0, none⟩)] w1 fun e w' => e = .returned (.tuple #[]) ∧ Goes w1 E (.ok (p + 1)) d w') := fun w1 b1 => pass_on E p d w1 (h.below b1) hp
      have hr : Hid (Res (pName E.ts) (.ok p) (tk E.ts p).text (.ok (p + 1))) := Res.of_ok (by simp [pName, hk'])
      have hR : E.R < w.heap.size := h.lt
      clear h hp hk
      simp only [Env.tok, RS.pos] at HN
      generalize tk E.ts p = t at *
      obtain ⟨k, x, l, c⟩ := t
      simp only [] at hk'
      subst hk'
      go_enter Tryz.func40, Tryz.ntmps40
      go_wp2_with fail
      refine HN.out.mono ?_
      rintro e w1 ⟨rfl, b1⟩
      have B1 := Lib.hid b1
      have hR1 : E.R < w1.heap.size := Nat.lt_of_lt_of_le hR b1.size
      clear b1
      go_wp2_with fail
      refine (hq.out _ (by repeat (first | (with_reducible exact Below.refl _ _) | (with_reducible exact B1.out) | (with_reducible assumption) | ((with_reducible refine Below.setCell ?_ ?_ _); rotate_left; focus (simp; done)) | ((with_reducible refine Below.alloc ?_ ?_ _); rotate_left; focus (first | exact Nat.le_refl _ | exact B1.out.size | (simp; done) | (have := B1.out.size; simp; omega))) | (with_reducible refine Below.drew ?_)))).mono ?_
      rintro e w2 ⟨rfl, g⟩
      have hT := g.kept.heap (k := w1.heap.size) (by omega) (heap_alloc_new w1 _)
      have t1 := cell_blk (i := 1) hT
      simp at t1
      have GG := Lib.hid g
      clear hT g
      go_wp2
      go_ret
      exact ⟨_, _, rfl, hr.out, GG.out.of_below (by repeat (first | (with_reducible exact Below.refl _ _) | (with_reducible exact B1.out) | (with_reducible assumption) | ((with_reducible refine Below.setCell ?_ ?_ _); rotate_left; focus (simp; done)) | ((with_reducible refine Below.alloc ?_ ?_ _); rotate_left; focus (first | exact Nat.le_refl _ | exact B1.out.size | (simp; done) | (have := B1.out.size; simp; omega))) | (with_reducible refine Below.drew ?_)))⟩
  · have hq : Hid (∀ w1, Below w.heap.size w w1 → _) := fun w1 b1 => fail_any E s d w1 5 (by decide) (h.below b1)
    have hr : Hid (Res (pName E.ts) s ⟨#[]⟩ (s.fails E 5)) := by
      cases s with
      | ok p => exact (Res.fails E 5 (.ok p) _).congr (fun q hq => by cases hq; have : (tk E.ts p).kind ≠ 1 := hk; simp [pName, this])
      | bad x l c => rfl
    clear h
    generalize E.tok s = t at *
    obtain ⟨k, x, l, c⟩ := t
    simp only [] at hk
    have q1 : ((k : Int) != 1) = true := by simp; omega
    clear hk
    go_enter Tryz.func40, Tryz.ntmps40
    go_wp2_with fail
    refine HN.out.mono ?_
    rintro e w1 ⟨rfl, b1⟩
    have B1 := Lib.hid b1
    clear b1
    go_wp2_with fail
    refine (hq.out _ (by repeat (first | (with_reducible exact Below.refl _ _) | (with_reducible exact B1.out) | (with_reducible assumption) | ((with_reducible refine Below.setCell ?_ ?_ _); rotate_left; focus (simp; done)) | ((with_reducible refine Below.alloc ?_ ?_ _); rotate_left; focus (first | exact Nat.le_refl _ | exact B1.out.size | (simp; done) | (have := B1.out.size; simp; omega))) | (with_reducible refine Below.drew ?_)))).mono ?_
    rintro e w2 ⟨rfl, g⟩
    have GG := Lib.hid g
    clear g
    go_wp2
    go_ret
    exact ⟨_, _, rfl, hr.out, GG.out.of_below (by repeat (first | (with_reducible exact Below.refl _ _) | (with_reducible exact B1.out) | (with_reducible assumption) | ((with_reducible refine Below.setCell ?_ ?_ _); rotate_left; focus (simp; done)) | ((with_reducible refine Below.alloc ?_ ?_ _); rotate_left; focus (first | exact Nat.le_refl _ | exact B1.out.size | (simp; done) | (have := B1.out.size; simp; omega))) | (with_reducible refine Below.drew ?_)))⟩

theorem parse_digits : ∀ (l : List UInt8) (acc : Nat), (∀ b ∈ l, 48 ≤ b.toNat ∧ b.toNat ≤ 57) → l.foldl (fun v (b : UInt8) => 10 * v + (b.toNat - 48)) acc ≤ 99999 → acc ≤ l.foldl (fun v (b : UInt8) => 10 * v + (b.toNat - 48)) acc ∧ Lib.parseUint10 acc l = .ok (l.foldl (fun v (b : UInt8) => 10 * v + (b.toNat - 48)) acc)
  | [], acc, _, _ => ⟨Nat.le_refl _, rfl⟩
  | c :: r, acc, hd, hv => by
    have ih := parse_digits r (10 * acc + (c.toNat - 48)) (fun b hb => hd b (List.mem_cons_of_mem _ hb)) hv
    have hc := hd c List.mem_cons_self
    simp only [List.foldl_cons] at hv ⊢
    refine ⟨by omega, ?_⟩
    unfold Lib.parseUint10
    rw [if_pos hc, if_neg (by omega), if_neg (by omega), ← ih.2, Nat.mul_comm]
theorem atoi_digits (x : ByteArray) (hne : x ≠ ⟨#[]⟩) (hd : ∀ b ∈ x.data.toList, 48 ≤ b.toNat ∧ b.toNat ≤ 57) (hv : valOf x.data.toList ≤ 99999) : Lib.atoiAll x.data.toList = .ok (valOf x.data.toList : Int) := by
  have hp := (parse_digits x.data.toList 0 hd hv).2
  have hl : x.data.toList ≠ [] := fun e => hne (by cases x with | mk d => cases d with | mk l => simp at e; subst e; rfl)
  have hv' : (x.data.toList.foldl (fun v (b : UInt8) => 10 * v + (b.toNat - 48)) 0) ≤ 99999 := hv
  unfold valOf
  generalize (x.data.toList.foldl (fun v (b : UInt8) => 10 * v + (b.toNat - 48)) 0) = v at *
  generalize x.data.toList = l at *
  cases l with
  | nil => exact absurd rfl hl
  | cons c r =>
    have hc := hd c List.mem_cons_self
    unfold Lib.atoiAll Lib.parseMag
    simp only [show ¬ c.toNat = 43 by omega, show ¬ c.toNat = 45 by omega, or_self, if_false, reduceCtorEq, hp, false_and, not_false_eq_true, true_and]
    rw [if_neg (by omega)]

theorem atoi_num (x : ByteArray) (hne : x ≠ ⟨#[]⟩) (hd : ∀ b ∈ x.data.toList, 48 ≤ b.toNat ∧ b.toNat ≤ 57) (hv : valOf x.data.toList ≤ 99999) (hs : x.size ≤ 65536) (w : World) :
    Calls Tryz.prog 75 #[.string x] w fun e w' => e = .returned (.tuple #[.int .i64 (valOf x.data.toList), .nilIface]) ∧ Below w.heap.size w w' :=
  (Tryz.strconv_Atoi_ok x (by omega) _ (atoi_digits x hne hd hv) w).mono fun e w' ⟨he, hw⟩ => ⟨he, by
    rcases hw with rfl | ⟨t, rfl⟩
    · exact Below.refl _ _
    · exact Joins.below_bytesWorld _ _ _ _ (Nat.le_refl _)⟩
def AtoiEnds (w : World) (e : Ending) (w' : World) : Prop := ∃ v ev, e = .returned (.tuple #[.int .i64 v, ev]) ∧ Below w.heap.size w w'
theorem atoi_any (x : ByteArray) (hs : x.size ≤ 65536) (w : World) (h1 : ∃ te pe, w.cell? ⟨4, 0, none⟩ = some (.iface te pe)) (h2 : ∃ te pe, w.cell? ⟨5, 0, none⟩ = some (.iface te pe)) :
    Calls Tryz.prog 75 #[.string x] w (AtoiEnds w) := by
  obtain ⟨t1, p1, h1⟩ := h1
  obtain ⟨t2, p2, h2⟩ := h2
  cases hr : Lib.atoiAll x.data.toList with
  | ok v => exact (Tryz.strconv_Atoi_ok x (by omega) _ hr w).mono fun e w' ⟨he, hw⟩ => ⟨_, _, he, by
      rcases hw with rfl | ⟨t, rfl⟩
      · exact Below.refl _ _
      · exact Joins.below_bytesWorld _ _ _ _ (Nat.le_refl _)⟩
  | range => exact (Tryz.strconv_Atoi_range x (by omega) hr _ w h2 (.inr ⟨_, _, rfl⟩)).mono fun e w' ⟨N, he, _, _, hb⟩ => ⟨_, _, he, hb⟩
  | _ => exact (Tryz.strconv_Atoi_syntax x (by omega) hr _ w h1 (.inr ⟨_, _, rfl⟩)).mono fun e w' ⟨N, he, _, _, hb⟩ => ⟨_, _, he, hb⟩

def NumEnds (E : Env) (s : RS) (d : Int) (w : World) (e : Ending) (w' : World) : Prop := ∃ v s', e = .returned (.int .i64 v) ∧ Res (pNum E.ts) s v s' ∧ Goes w E s' d w'

set_option maxHeartbeats 1000000 in
set_option maxRecDepth 100000 in
theorem number_any (E : Env) (s : RS) (d : Int) (w : World) (h : Rd w E s d) :
    Calls Tryz.prog 41 #[.pointer (some ⟨E.R, 0, none⟩)] w (NumEnds E s d w) := by
  have hnext := next_reads E _ d w h
  have HN := Lib.hid hnext
  clear hnext
  have hsz := (h.env.wf.all _ (tk_mem h.posLt)).size
  by_cases hk : (E.tok s).kind = 2
  · cases s with
    | bad x l c => exact absurd ((tok_bad h).1.symm.trans hk) (by decide)
    | ok p =>
      have hk' : (tk E.ts p).kind = 2 := hk
      have hp := tok_ok h (by omega)
      have hq : Hid (∀ w1, Below w.heap.size w w1 → Calls Tryz.prog 74 #[.pointer (some ⟨E.R, 0, none⟩)] w1 fun e w' => e = .returned (.tuple #[]) ∧ Goes w1 E (.ok (p + 1)) d w') := fun w1 b1 => pass_on E p d w1 (h.below b1) hp
      have hr : Hid (Res (pNum E.ts) (.ok p) (valOf (tk E.ts p).text.data.toList : Int) (.ok (p + 1))) := Res.of_ok (by simp [pNum, hk'])
      have hR : E.R < w.heap.size := h.lt
      have hwt := h.env.wf.all _ (tk_mem (show p < E.ts.length from h.fits))
      have ha : Hid (∀ W, _) := fun W => atoi_num (tk E.ts p).text (hwt.some (by omega)) (hwt.num hk').1 (hwt.num hk').2 hsz W
      clear h hp hk hwt
      simp only [Env.tok, RS.pos] at HN hsz
      generalize tk E.ts p = t at *
      obtain ⟨k, x, l, c⟩ := t
      simp only [] at hk' ha hsz
      subst hk'
      generalize valOf x.data.toList = v at *
      go_enter Tryz.func41, Tryz.ntmps41
      go_wp2_with fail
      refine HN.out.mono ?_
      rintro e w1 ⟨rfl, b1⟩
      have B1 := Lib.hid b1
      have hR1 : E.R < w1.heap.size := Nat.lt_of_lt_of_le hR b1.size
      clear b1
      go_wp2_with fail
      refine (ha.out _).mono ?_
      rintro e w2 ⟨rfl, b2⟩
      have hT := (b2.block w1.heap.size (by simp)).trans (heap_alloc_new w1 _)
      have t0 := cell_blk (i := 0) hT
      simp at t0
      have B2 : Hid (Below w.heap.size w w2) := Below.trans (by repeat (first | (with_reducible exact Below.refl _ _) | (with_reducible exact B1.out) | (with_reducible assumption) | ((with_reducible refine Below.setCell ?_ ?_ _); rotate_left; focus (simp; done)) | ((with_reducible refine Below.alloc ?_ ?_ _); rotate_left; focus (first | exact Nat.le_refl _ | exact B1.out.size | (simp; done) | (have := B1.out.size; simp; omega))) | (with_reducible refine Below.drew ?_))) (b2.mono (by have := B1.out.size; simp; omega))
      clear hT b2
      go_wp2_with fail
      refine (hq.out _ (B2.out)).mono ?_
      rintro e w3 ⟨rfl, g⟩
      have GG := Lib.hid g
      clear g
      go_wp2
      go_ret
      exact ⟨_, _, rfl, hr.out, GG.out.of_below B2.out⟩
  · have hq : Hid (∀ w1, Below w.heap.size w w1 → _) := fun w1 b1 => fail_any E s d w1 5 (by decide) (h.below b1)
    have hr : Hid (Res (pNum E.ts) s 0 (s.fails E 5)) := by
      cases s with
      | ok p => exact (Res.fails E 5 (.ok p) _).congr (fun q hq => by cases hq; have : (tk E.ts p).kind ≠ 2 := hk; simp [pNum, this])
      | bad x l c => rfl
    have ha : Hid (∀ W, Below w.heap.size w W → _) := fun W b => atoi_any (E.tok s).text hsz W ((h.below b).env.syn.2) ((h.below b).env.rng.2)
    clear h
    generalize hx : E.tok s = t at *
    clear hx
    obtain ⟨k, x, l, c⟩ := t
    simp only [] at hk ha
    have q1 : ((k : Int) != 2) = true := by simp; omega
    clear hk hsz
    go_enter Tryz.func41, Tryz.ntmps41
    go_wp2_with fail
    refine HN.out.mono ?_
    rintro e w1 ⟨rfl, b1⟩
    have B1 := Lib.hid b1
    clear b1
    go_wp2_with fail
    refine (ha.out _ (by repeat (first | (with_reducible exact Below.refl _ _) | (with_reducible exact B1.out) | (with_reducible assumption) | ((with_reducible refine Below.setCell ?_ ?_ _); rotate_left; focus (simp; done)) | ((with_reducible refine Below.alloc ?_ ?_ _); rotate_left; focus (first | exact Nat.le_refl _ | exact B1.out.size | (simp; done) | (have := B1.out.size; simp; omega))) | (with_reducible refine Below.drew ?_)))).mono ?_
    rintro e w2 ⟨v, ev, rfl, b2⟩
    have hT := (b2.block w1.heap.size (by simp)).trans (heap_alloc_new w1 _)
    have t0 := cell_blk (i := 0) hT
    simp at t0
    have B2 : Hid (Below w.heap.size w w2) := Below.trans (by repeat (first | (with_reducible exact Below.refl _ _) | (with_reducible exact B1.out) | (with_reducible assumption) | ((with_reducible refine Below.setCell ?_ ?_ _); rotate_left; focus (simp; done)) | ((with_reducible refine Below.alloc ?_ ?_ _); rotate_left; focus (first | exact Nat.le_refl _ | exact B1.out.size | (simp; done) | (have := B1.out.size; simp; omega))) | (with_reducible refine Below.drew ?_))) (b2.mono (by have := B1.out.size; simp; omega))
    clear hT b2
    go_wp2_with fail
    refine (hq.out _ B2.out).mono ?_
    rintro e w3 ⟨rfl, g⟩
    have GG := Lib.hid g
    clear g
    go_wp2
    go_ret
    exact ⟨_, _, rfl, hr.out, GG.out.of_below B2.out⟩
end Go.Proofs.YtaffgdgdojdoiaaGreatDoor
