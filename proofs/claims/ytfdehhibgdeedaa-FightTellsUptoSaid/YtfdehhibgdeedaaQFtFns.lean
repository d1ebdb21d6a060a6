import Derived.Test.YtfdehhibgdeedaaQTbMono
import Derived.Test.YtfdehhibgdeedaaQTbInFew
/- fight: its small functions; might.Guard. -/
namespace Go.Proofs.Ytfdehhibgdeedaa
open Go.RowKit Go.Lib

set_option maxHeartbeats 1000000 in
theorem fother_any (h : Nat) (w : World) (hh : h ≤ 1) : Calls Try.prog 22 #[.int .u8 h] w fun e w' => e = .returned (.int .u8 (1 - h : Nat)) ∧ w' = w := by
  rcases (show h = 0 ∨ h = 1 by omega) with rfl | rfl
  all_goals
    go_enter Try.func22, Try.ntmps22
    go_wp2_with fail
    go_ret
    exact ⟨rfl, rfl⟩

def attB (p : Pc) : Bool := p.zn == 2 && (p.up && !p.lw)
set_option maxHeartbeats 1000000 in
theorem fattacker_any (p : Pc) (w : World) : Calls Try.prog 29 #[.agg (pcV p).toArray] w fun e w' => e = .returned (.bool (attB p)) ∧ Below w.heap.size w w' := by
  simp only [pcV, attB]
  by_cases hz : p.zn = 2
  · have e1 : ((p.zn : Int) == 2) = true := by simp [hz]
    have HE : Hid ((p.zn == 2) = true) := Lib.hid (by simp [hz])
    clear hz
    cases hu : p.up <;> cases hl : p.lw
    all_goals
      go_enter Try.func29, Try.ntmps29
      go_wp2_with fail
      go_ret
      exact ⟨ret_bool (by rw [HE.out]; rfl), (Below.refl _ _).alloc (Nat.le_refl _) _⟩
  · have e1 : ((p.zn : Int) == 2) = false := by simp; omega
    have HE : Hid ((p.zn == 2) = false) := Lib.hid (by simp [hz])
    clear hz
    go_enter Try.func29, Try.ntmps29
    go_wp2_with fail
    go_ret
    exact ⟨ret_bool (by rw [HE.out]; rfl), (Below.refl _ _).alloc (Nat.le_refl _) _⟩

def tarB (p : Pc) (h : Nat) : Bool := p.zn == 2 && p.hs == h
set_option maxHeartbeats 1000000 in
theorem ftarget_any (p : Pc) (h : Nat) (w : World) : Calls Try.prog 40 #[.agg (pcV p).toArray, .int .u8 h] w fun e w' => e = .returned (.bool (tarB p h)) ∧ Below w.heap.size w w' := by
  simp only [pcV, tarB]
  by_cases hz : p.zn = 2
  · have e1 : ((p.zn : Int) == 2) = true := by simp [hz]
    have HE : Hid ((p.zn == 2) = true) := Lib.hid (by simp [hz])
    clear hz
    by_cases hh : p.hs = h
    · have e2 : ((p.hs : Int) == (h : Int)) = true := by simp [hh]
      have HF : Hid ((p.hs == h) = true) := Lib.hid (by simp [hh])
      clear hh
      go_enter Try.func40, Try.ntmps40
      go_wp2_with fail
      go_ret
      exact ⟨ret_bool (by rw [HE.out, HF.out]; rfl), (Below.refl _ _).alloc (Nat.le_refl _) _⟩
    · have e2 : ((p.hs : Int) == (h : Int)) = false := by simp; omega
      have HF : Hid ((p.hs == h) = false) := Lib.hid (by simp [hh])
      clear hh
      go_enter Try.func40, Try.ntmps40
      go_wp2_with fail
      go_ret
      exact ⟨ret_bool (by rw [HE.out, HF.out]; rfl), (Below.refl _ _).alloc (Nat.le_refl _) _⟩
  · have e1 : ((p.zn : Int) == 2) = false := by simp; omega
    have HE : Hid ((p.zn == 2) = false) := Lib.hid (by simp [hz])
    clear hz
    go_enter Try.func40, Try.ntmps40
    go_wp2_with fail
    go_ret
    exact ⟨ret_bool (by rw [HE.out]; rfl), (Below.refl _ _).alloc (Nat.le_refl _) _⟩

set_option maxHeartbeats 1000000 in
theorem fthere_yes (t : Tb) (i : Nat) (w : World) (h : i < t.np) : Calls Try.prog 39 #[.agg t.row, .int .i64 i] w fun e w' => e = .returned (.bool true) ∧ Below w.heap.size w w' := by
  have i0 : (i : Int) ≥ 0 := by omega
  have i1 : (i : Int) < (t.np : Int) := by omega
  simp only [Tb.row]
  go_enter Try.func39, Try.ntmps39
  go_wp2_with fail
  go_ret
  exact ⟨rfl, (Below.refl _ _).alloc (Nat.le_refl _) _⟩
set_option maxHeartbeats 1000000 in
theorem fthere_no (t : Tb) (i : Int) (w : World) (h : ¬ (0 ≤ i ∧ i < t.np)) : Calls Try.prog 39 #[.agg t.row, .int .i64 i] w fun e w' => e = .returned (.bool false) ∧ Below w.heap.size w w' := by
  simp only [Tb.row]
  by_cases i0 : i ≥ 0
  · have i1 : ¬ i < (t.np : Int) := by omega
    clear h
    go_enter Try.func39, Try.ntmps39
    go_wp2_with fail
    go_ret
    exact ⟨rfl, (Below.refl _ _).alloc (Nat.le_refl _) _⟩
  · clear h
    go_enter Try.func39, Try.ntmps39
    go_wp2_with fail
    go_ret
    exact ⟨rfl, (Below.refl _ _).alloc (Nat.le_refl _) _⟩

set_option maxHeartbeats 2000000 in
theorem guard_may (t : Tb) (xs : List Cd) (ps : List Pc) (i : Nat) (p : Pc) (w : World) (hT : TabIn w t xs ps) (hL : LifeOk t) (hG : GoodB xs ps) (hi : ps[i]? = some p) :
    Calls Try.prog 45 #[.agg t.row, .int .i64 i] w fun e w' => e = .returned (.int .i64 p.gd) ∧ Below w.heap.size w w' := by
  obtain ⟨g, o, hq, hg, hc⟩ := hT.piece hi
  have hil : i < t.np := by rw [hT.np.1]; exact (List.getElem?_eq_some_iff.1 hi).1
  have hmay := Lib.hid fun (W : World) (hb : Below w.heap.size w W) => bmay_yes t xs ps W (hT.below hb) hL hG
  have hth := Lib.hid fun W => might_there_yes t i W hil
  have HC := Lib.hid (hc 2 _ rfl)
  have i0 : (0 : Int) ≤ (i : Int) := by omega
  have i1 : (i : Int) < (t.np : Int) := by omega
  clear hT hi hc hL hG
  obtain ⟨w0, hw0⟩ : ∃ w0, w0 = w.alloc (.cells t.row 28) := ⟨_, rfl⟩
  have hb0 : Below w.heap.size w w0 := by rw [hw0]; exact (Below.refl _ _).alloc (Nat.le_refl _) _
  have hx0 : w0.heap[w.heap.size]? = some (.cells t.row 28 (0, 0)) := by rw [hw0]; exact heap_alloc_new _ _
  have HB0 := Lib.hid hb0
  have HX0 := Lib.hid hx0
  have HW0 := Lib.hid hw0
  clear hb0 hx0 hw0
  simp only [Tb.row] at *
  rw [hq] at *
  go_enter Try.func45, Try.ntmps45
  go_wp2_with fail
  rw [← HW0.out]
  refine (hmay.out _ HB0.out).mono ?_
  rintro e w1 ⟨rfl, b1⟩
  have HX1 := Lib.hid ((b1.block _ (heap_lt HX0.out)).trans HX0.out)
  have HB1 : Hid (Below w.heap.size w w1) := Lib.hid (HB0.out.trans (b1.mono HB0.out.size))
  clear b1
  have hlt1 := heap_lt HX1.out
  have y0 := cell_blk (i := 0) HX1.out
  have y1 := cell_blk (i := 1) HX1.out
  have y2 := cell_blk (i := 2) HX1.out
  have y3 := cell_blk (i := 3) HX1.out
  have y4 := cell_blk (i := 4) HX1.out
  have y5 := cell_blk (i := 5) HX1.out
  have y6 := cell_blk (i := 6) HX1.out
  have y7 := cell_blk (i := 7) HX1.out
  have y8 := cell_blk (i := 8) HX1.out
  have y9 := cell_blk (i := 9) HX1.out
  simp at y0 y1 y2 y3 y4 y5 y6 y7 y8 y9
  go_wp2_with fail
  refine (hth.out _).mono ?_
  rintro e w2 ⟨rfl, b2⟩
  have HB2 : Hid (Below w.heap.size w w2) := Lib.hid (HB1.out.trans (b2.mono HB1.out.size))
  clear y0 y2 y3 y4 y5 y6 y7 y8 y9
  replace y1 := cell_later b2 y1
  have c2 := cell_later HB2.out HC.out
  clear b2
  go_wp2_with fail
  go_ret
  exact ⟨rfl, HB2.out⟩

theorem results_cell_slot {fn : Func} {p u : Tmp} {ty : TypeId} (h : fn.results = #[.cell p ty, .tmp u]) (tmps : Array Value) (P : Program) (w : World) (g : Nat) (t' : TypeId) (cs : Array Value) (fr : Nat × Nat) (n : Nat) (el : TypeId)
    (hp : tmps.getD p undef = .pointer (some ⟨g, 0, none⟩)) (hg : w.heap[g]? = some (.cells cs t' fr))
    (hu : P.underlying ty = some (.array n el)) (hi : (P.info? ty).map (·.size) = some cs.size) :
    (results fn tmps).run P w = .ok (.tuple #[.agg cs, tmps.getD u undef]) w := by
  have hp' : tmps[p]?.getD undef = .pointer (some ⟨g, 0, none⟩) := by simpa using hp
  simp [results, h, hp', asAddr, Sem.run_bind, Result.andThen, run_loadVar_row w g t' ty cs fr (.array n el) hg hu rfl hi]
theorem results_cell_slot2 {fn : Func} {p u v : Tmp} {ty : TypeId} (h : fn.results = #[.cell p ty, .tmp u, .tmp v]) (tmps : Array Value) (P : Program) (w : World) (g : Nat) (t' : TypeId) (cs : Array Value) (fr : Nat × Nat) (n : Nat) (el : TypeId)
    (hp : tmps.getD p undef = .pointer (some ⟨g, 0, none⟩)) (hg : w.heap[g]? = some (.cells cs t' fr))
    (hu : P.underlying ty = some (.array n el)) (hi : (P.info? ty).map (·.size) = some cs.size) :
    (results fn tmps).run P w = .ok (.tuple #[.agg cs, tmps.getD u undef, tmps.getD v undef]) w := by
  have hp' : tmps[p]?.getD undef = .pointer (some ⟨g, 0, none⟩) := by simpa using hp
  simp [results, h, hp', asAddr, Sem.run_bind, Result.andThen, run_loadVar_row w g t' ty cs fr (.array n el) hg hu rfl hi]

theorem row_few {xs : List Cd} {ps : List Pc} (hG : GoodB xs ps) (h : Nat) : ps.countP (inZ h 2) ≤ 5 := by
  have hd := nodup_of_count (l := ps) (h := h) (z := 2) fun p hp h1 h2 => by
    have := hG.uniq p hp (by omega) (by omega)
    rwa [h1, h2] at this
  have hin : ∀ p ∈ ps.filter (inZ h 2), p ∈ ps ∧ 0 ≤ p.pl ∧ p.pl < 5 := by
    intro p hp
    obtain ⟨hp, hi⟩ := List.mem_filter.1 hp
    simp only [inZ, Bool.and_eq_true, beq_iff_eq] at hi
    exact ⟨hp, (hG.one p hp).row (.inl hi.1)⟩
  have := nodup_le 5 ((ps.filter (inZ h 2)).map fun p => p.pl.toNat) (by
    intro x hx
    obtain ⟨p, hp, rfl⟩ := List.mem_map.1 hx
    have := hin p hp
    omega) (by
    rw [List.nodup_iff_pairwise_ne, List.pairwise_map]
    rw [List.nodup_iff_pairwise_ne, List.pairwise_map] at hd
    refine hd.imp_of_mem fun {p q} hp hq hne => ?_
    have := hin p hp
    have := hin q hq
    omega)
  rwa [List.length_map, ← List.countP_eq_length_filter] at this
end Go.Proofs.Ytfdehhibgdeedaa
