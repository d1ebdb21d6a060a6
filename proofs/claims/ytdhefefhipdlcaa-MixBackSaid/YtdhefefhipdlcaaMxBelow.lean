/- mix.Below and the document's: a number below another one. -/
import Derived.Test.YtdhefefhipdlcaaMxDraws
import Derived.Test.YtdhefefhipdlcaaMxSeed
namespace Go.Proofs.Ytdhefefhipdlcaa
open Go.RowKit Go.Lib Go.Shelf
attribute [local go_sem] Oper.semAt_some

/-- below's own cells while it goes over the draws. -/
structure BelI (w : World) (n bd v x k i : Nat) (V : World) : Prop where
  c0 : V.heap[w.heap.size]? = some (.cells #[.int .u64 (n : Int)] 22 (0, 0))
  c1 : V.heap[w.heap.size + 1]? = some (.cells #[.int .u64 (v : Int)] 22 (0, 0))
  c2 : V.heap[w.heap.size + 2]? = some (.cells #[.int .u64 (x : Int)] 22 (0, 0))
  c3 : V.heap[w.heap.size + 3]? = some (.cells #[.int .u64 (bd : Int)] 22 (0, 0))
  le : i ≤ k
  bel : Below w.heap.size w V

theorem cells_own {B g : Nat} {cs : Array Value} {t : TypeId} {X Y : World} {row : Option Nat} (h : X.heap[g]? = some (.cells cs t (0, 0))) (hg : X.grownBy Y row) (hr : ∀ r, row = some r → B ≤ r ∧ ∃ o : Obj, X.heap[r]? = some o ∧ o.isCells = false) : Y.heap[g]? = some (.cells cs t (0, 0)) := by
  refine (hg.block g (heap_lt h) (fun e => ?_)).trans h
  obtain ⟨o, ho, hc⟩ := (hr g e.symm).2
  rw [h] at ho; cases ho; cases hc
theorem BelI.own {B : Nat} {w : World} {n bd v x k i : Nat} {X Y : World} {row : Option Nat} (h : BelI w n bd v x k i X) (hB : w.heap.size ≤ B) (hg : X.grownBy Y row) (hr : ∀ r, row = some r → B ≤ r ∧ ∃ o : Obj, X.heap[r]? = some o ∧ o.isCells = false) : BelI w n bd v x k i Y :=
  ⟨cells_own h.c0 hg hr, cells_own h.c1 hg hr, cells_own h.c2 hg hr, cells_own h.c3 hg hr, h.le, h.bel.grown hg h.bel.size (fun k e => by have := (hr k e).1; omega)⟩
theorem results_u64_cells {fn : Func} {p u : Tmp} (h : fn.results = #[.cell p 22, .cell u 22]) (tmps : Array Value) (w : World) (g d : Nat) (a b : Int)
    (hp : tmps.getD p undef = .pointer (some ⟨g, 0, none⟩)) (hu : tmps.getD u undef = .pointer (some ⟨d, 0, none⟩))
    (hg : w.heap[g]? = some (.cells #[.int .u64 a] 22 (0, 0))) (hd : w.heap[d]? = some (.cells #[.int .u64 b] 22 (0, 0))) :
    (results fn tmps).run Try.prog w = .ok (.tuple #[.int .u64 a, .int .u64 b]) w := by
  have hp' : tmps[p]?.getD undef = .pointer (some ⟨g, 0, none⟩) := by simpa using hp
  have hu' : tmps[u]?.getD undef = .pointer (some ⟨d, 0, none⟩) := by simpa using hu
  have c0 := cell_blk (i := 0) hg
  have c1 := cell_blk (i := 0) hd
  simp at c0 c1
  simp [results, h, hp', hu', asAddr, Sem.run_bind, Result.andThen, go_sem, c0, c1]

theorem bnd_walk (n : Nat) : IntKind.u64.wrap (18446744073709551615 - 18446744073709551615 % (n : Int)) = (bndN n : Nat) := by
  have hle := Nat.mod_le 18446744073709551615 n
  rw [IntKind.wrap_u64, show (18446744073709551615 % (n : Int)) = ((18446744073709551615 % n : Nat) : Int) from rfl]
  unfold bndN
  generalize 18446744073709551615 % n = r at *
  omega

set_option maxRecDepth 100000 in
set_option maxHeartbeats 8000000 in
theorem below_in (seed at_ n k : Nat) (hk : First seed at_ n k) (hlt : k < 18446744073709551615) (hn : 0 < n) (hat : at_ < 18446744073709551616) (hnM : n < 18446744073709551616) (v x : Nat) (hv : v = drN seed ((at_ + k) % 18446744073709551616) % n) (hx : x = (at_ + k + 1) % 18446744073709551616) (w : World) :
    CallsIn Fence.wide 6 Try.prog 27 #[.int .u64 (seed : Int), .int .u64 (at_ : Int), .int .u64 (n : Int)] w fun e w' => e = .returned (.tuple #[.int .u64 (v : Int), .int .u64 (x : Int)]) ∧ Below w.heap.size w w' := by
  have hro : Fence.wide.round = none := rfl
  have e2 := bnd_walk n
  have q0 := nat_eq_zero_no (Nat.pos_iff_ne_zero.1 hn)
  have HK := Lib.hid hk
  have HV := Lib.hid hv
  have HX := Lib.hid hx
  clear hv hx
  refine callsIn_of_wp_marks Try.func27 rfl trivial ?_ hro
  simp only [Try.ntmps27, List.size_toArray, List.length_cons, List.length_nil, Nat.reduceAdd, Nat.reduceSub, Array.replicate_succ, Array.replicate_zero, List.push_toArray, List.append_toArray, List.nil_append, List.cons_append]
  gi_wp2_with (refine ⟨trivial, ?_⟩; gi_at_call 33; refine (draws_make _ seed at_ _).mono ?_; rintro e w' ⟨rfl, rfl⟩)
  have hW0 : BelI w n (bndN n) 0 0 k 0 ((((((w.alloc (.cells #[.int .u64 (n : Int)] 22)).alloc (.cells #[.int .u64 0] 22)).alloc (.cells #[.int .u64 0] 22)).alloc (.cells #[.int .u64 (bndN n : Nat)] 22)).alloc (.cells #[.int .u64 (seed : Int)] 22)).alloc (.cells #[.int .u64 (at_ : Int)] 22)) :=
    ⟨heap_older (heap_older (heap_older (heap_older (heap_older (heap_newer _ _ _ (by simp)))))), heap_older (heap_older (heap_older (heap_older (heap_newer _ _ _ (by simp))))), heap_older (heap_older (heap_older (heap_newer _ _ _ (by simp)))), heap_older (heap_older (heap_newer _ _ _ (by simp))), Nat.zero_le _,
      ((((((Below.refl _ _).alloc (Nat.le_refl _) _).alloc (by simp) _).alloc (by simp; omega) _).alloc (by simp; omega) _).alloc (by simp; omega) _).alloc (by simp; omega) _⟩
  have hBs : ((((((w.alloc (.cells #[.int .u64 (n : Int)] 22)).alloc (.cells #[.int .u64 0] 22)).alloc (.cells #[.int .u64 0] 22)).alloc (.cells #[.int .u64 (bndN n : Nat)] 22)).alloc (.cells #[.int .u64 (seed : Int)] 22)).alloc (.cells #[.int .u64 (at_ : Int)] 22)).heap[w.heap.size + 1 + 1 + 1 + 1]? = some (.cells #[.int .u64 (seed : Int)] 22 (0, 0)) := heap_older (heap_newer _ _ _ (by simp))
  have hBf : ((((((w.alloc (.cells #[.int .u64 (n : Int)] 22)).alloc (.cells #[.int .u64 0] 22)).alloc (.cells #[.int .u64 0] 22)).alloc (.cells #[.int .u64 (bndN n : Nat)] 22)).alloc (.cells #[.int .u64 (seed : Int)] 22)).alloc (.cells #[.int .u64 (at_ : Int)] 22)).heap[w.heap.size + 1 + 1 + 1 + 1 + 1]? = some (.cells #[.int .u64 (at_ : Int)] 22 (0, 0)) := heap_newer _ _ _ (by simp)
  have hsz : ((((((w.alloc (.cells #[.int .u64 (n : Int)] 22)).alloc (.cells #[.int .u64 0] 22)).alloc (.cells #[.int .u64 0] 22)).alloc (.cells #[.int .u64 (bndN n : Nat)] 22)).alloc (.cells #[.int .u64 (seed : Int)] 22)).alloc (.cells #[.int .u64 (at_ : Int)] 22)).heap.size = w.heap.size + 6 := by simp
  obtain ⟨W0, hW⟩ : ∃ W0, ((((((w.alloc (.cells #[.int .u64 (n : Int)] 22)).alloc (.cells #[.int .u64 0] 22)).alloc (.cells #[.int .u64 0] 22)).alloc (.cells #[.int .u64 (bndN n : Nat)] 22)).alloc (.cells #[.int .u64 (seed : Int)] 22)).alloc (.cells #[.int .u64 (at_ : Int)] 22)) = W0 := ⟨_, rfl⟩
  rw [hW] at hW0 hBs hBf hsz ⊢
  clear hW
  refine range_n (n := 6) (gf := 36) (lb := #[.pointer (some ⟨w.heap.size + 1 + 1 + 1 + 1 + 1, 0, none⟩), .pointer (some ⟨w.heap.size + 1 + 1 + 1 + 1, 0, none⟩)]) rfl (enters_of Try.func36 (by kernel_rfl) rfl)
    (draws_seq 5 (by omega) (w.heap.size + 1 + 1 + 1 + 1 + 1) (w.heap.size + 1 + 1 + 1 + 1) (w.heap.size + 1) seed at_ k (by omega) (by omega) hat hlt W0 hBs hBf)
    (fun h g => h.trans g) (fun V o o' q1 q2 => KpC.put V _ o o' q1 q2) (fun _ => rfl)
    (fun i V => BelI w n (bndN n) 0 0 k i V)
    (fun c i V => c = .exit 0 ∧ i = k + 1 ∧ BelI w n (bndN n) v x k k V)
    (fun s X Y row h hg hr => h.own (by omega) hg hr)
    (fun c s X Y row h hg hr => ⟨h.1, h.2.1, h.2.2.own (by omega) hg hr⟩)
    hW0
    (fun i a' V => ∃ u17 u18 u19 u20 u21 u22 u23 u24 u25 u26 u27 u28 : Value, a' = { tmps := #[.int .u64 (seed : Int), .int .u64 (at_ : Int), .int .u64 (n : Int), undef, undef, .pointer (some ⟨w.heap.size, 0, none⟩), .pointer (some ⟨w.heap.size + 1, 0, none⟩), .pointer (some ⟨w.heap.size + 1 + 1, 0, none⟩), .pointer (some ⟨w.heap.size + 1 + 1 + 1, 0, none⟩), .int .u64 ((at_ + i) % 18446744073709551616 : Nat), .int .u64 (drN seed ((at_ + i) % 18446744073709551616) : Nat), .int .u64 (n : Int), .int .u64 (18446744073709551615 % (n : Int)), .int .u64 (bndN n : Nat), .int .u64 (seed : Int), .int .u64 (at_ : Int), .func (.func 36) #[] #[.pointer (some ⟨w.heap.size + 1 + 1 + 1 + 1 + 1, 0, none⟩), .pointer (some ⟨w.heap.size + 1 + 1 + 1 + 1, 0, none⟩)], u17, u18, u19, u20, u21, u22, u23, u24, u25, u26, u27, u28], defers := [] })
    (fun x a' _ X Y row h hg hr => h)
    ?assign ?body ?stop
  case assign =>
    rintro l i V K hi hK
    unfold dEnc
    generalize (at_ + i) % 18446744073709551616 = m at *
    generalize drN seed m = d at *
    gi_wp2
    exact hK _ _ (KeepsFrom.refl _ _) (KpC.refl _ _) hi ⟨_, _, _, _, _, _, _, _, _, _, _, _, rfl⟩
  case body =>
    rintro l i a' V hl ⟨r, hr⟩ hI ⟨u17, u18, u19, u20, u21, u22, u23, u24, u25, u26, u27, u28, rfl⟩
    have hle := hI.le
    have z0 := cell_blk (i := 0) hI.c0
    have z1 := cell_blk (i := 0) hI.c1
    have z2 := cell_blk (i := 0) hI.c2
    have z3 := cell_blk (i := 0) hI.c3
    have f1 := free_blk (i := 0) hI.c1
    have f2 := free_blk (i := 0) hI.c2
    simp at z0 z1 z2 z3
    by_cases hd : drN seed ((at_ + i) % 18446744073709551616) < bndN n
    · have hik : i = k := by
        rcases Nat.lt_or_eq_of_le hle with h | h
        · exact absurd hd (hk.2 i h)
        · exact h
      subst hik
      obtain ⟨m, hm⟩ : ∃ m, m = (at_ + i) % 18446744073709551616 := ⟨_, rfl⟩
      obtain ⟨d, hdd⟩ : ∃ d, d = drN seed m := ⟨_, rfl⟩
      have hv : v = d % n := by rw [hdd, hm]; exact HV.out
      have hx := HX.out
      have e4 : (d : Int) % (n : Int) = (v : Int) := by rw [hv]; rfl
      have e5 : IntKind.u64.wrap ((m : Int) + 1) = (x : Int) := by rw [IntKind.wrap_u64]; omega
      have d1 : (d : Int) < (bndN n : Nat) := by rw [hdd, hm]; omega
      rw [← hm, ← hdd]
      have hE : BelI w n (bndN n) v x i i ((V.setCell ⟨w.heap.size + 1, 0, none⟩ (.int .u64 (v : Int))).setCell ⟨w.heap.size + 1 + 1, 0, none⟩ (.int .u64 (x : Int))) :=
        ⟨(heap_set_far (by simp; omega) _).trans ((heap_set_far (by simp) _).trans hI.c0), (heap_set_far (by simp) _).trans (heap_set hI.c1 _), heap_set ((heap_set_far (by simp) _).trans hI.c2) _, (heap_set_far (by simp) _).trans ((heap_set_far (by simp) _).trans hI.c3), Nat.le_refl _,
          (hI.bel.setCell (p := ⟨w.heap.size + 1, 0, none⟩) (by simp) _).setCell (p := ⟨w.heap.size + 1 + 1, 0, none⟩) (by simp; omega) _⟩
      have HE := Lib.hid hE
      have HKF := Lib.hid (show KeepsFrom W0.heap.size V ((V.setCell ⟨w.heap.size + 1, 0, none⟩ (.int .u64 (v : Int))).setCell ⟨w.heap.size + 1 + 1, 0, none⟩ (.int .u64 (x : Int))) from ((KeepsOthers.setCell V _ _).trans (KeepsOthers.setCell _ _ _)).from _)
      clear hI hE hm hdd hv hx hd hk hle
      gi_wp2
      exact ⟨HKF.out, rfl, rfl, HE.out⟩
    · have hik : i < k := by
        rcases Nat.lt_or_eq_of_le hle with h | h
        · exact h
        · exact absurd (by rw [h]; exact hk.1) hd
      generalize (at_ + i) % 18446744073709551616 = m at *
      generalize drN seed m = d at *
      have d1 : ¬ (d : Int) < (bndN n : Nat) := by omega
      have HI := Lib.hid hI
      clear hI hd hk hle
      gi_wp2
      exact ⟨⟨KeepsFrom.refl _ _, KpC.refl _ _⟩, hik, ⟨HI.out.c0, HI.out.c1, HI.out.c2, HI.out.c3, hik, HI.out.bel⟩⟩
  case stop =>
    rintro c i V ⟨rfl, rfl, hI⟩ hD
    have z1 := cell_blk (i := 0) hI.c1
    have z2 := cell_blk (i := 0) hI.c2
    have f1 := free_blk (i := 0) hI.c1
    have f2 := free_blk (i := 0) hI.c2
    have HI := Lib.hid hI
    have HD := Lib.hid hD
    have HSZ := Lib.hid hsz
    simp only [List.getElem?_toArray, List.getElem?_cons_zero] at z1 z2
    clear hI hD hsz hk hW0 hBs hBf
    gi_wp2
    gi_region
    gi_wp2
    have hE : BelI w n (bndN n) v x k k ((V.setCell ⟨w.heap.size + 1, 0, none⟩ (.int .u64 (v : Int))).setCell ⟨w.heap.size + 1 + 1, 0, none⟩ (.int .u64 (x : Int))) :=
      ⟨(heap_set_far (by simp; omega) _).trans ((heap_set_far (by simp) _).trans HI.out.c0), (heap_set_far (by simp) _).trans (heap_set HI.out.c1 _), heap_set ((heap_set_far (by simp) _).trans HI.out.c2) _, (heap_set_far (by simp) _).trans ((heap_set_far (by simp) _).trans HI.out.c3), Nat.le_refl _,
        (HI.out.bel.setCell (p := ⟨w.heap.size + 1, 0, none⟩) (by simp) _).setCell (p := ⟨w.heap.size + 1 + 1, 0, none⟩) (by simp; omega) _⟩
    have hD2 : ((V.setCell ⟨w.heap.size + 1, 0, none⟩ (.int .u64 (v : Int))).setCell ⟨w.heap.size + 1 + 1, 0, none⟩ (.int .u64 (x : Int))).heap[W0.heap.size]? = some (.deferred (some [])) := (heap_set_far (by have := HSZ.out; simp; omega) _).trans ((heap_set_far (by have := HSZ.out; simp; omega) _).trans HD.out)
    exact leaves_marks (B := w.heap.size) (X := fun V => BelI w n (bndN n) v x k k V) (fun _ X Y row h hg hr => h.own (Nat.le_refl _) hg hr)
      (fun V h => ⟨_, results_u64_cells rfl _ _ (w.heap.size + 1) (w.heap.size + 1 + 1) _ _ rfl rfl h.c1 h.c2, rfl, h.bel⟩)
      [W0.heap.size] _ (by simp) (fun D hd => by simp at hd; subst hd; exact ⟨by have := HSZ.out; omega, hD2⟩) ⟨hE.c0, hE.c1, hE.c2, hE.c3, hE.le, hE.bel.drew⟩
theorem below_any (seed at_ n : Nat) (hn : 0 < n) (hat : at_ < 18446744073709551616) (hnM : n < 18446744073709551616) (w : World) :
    Calls Try.prog 27 #[.int .u64 (seed : Int), .int .u64 (at_ : Int), .int .u64 (n : Int)] w fun e w' => e = .returned (.tuple #[.int .u64 (belowN seed at_ n : Nat), .int .u64 (nextN seed at_ n : Nat)]) ∧ Below w.heap.size w w' :=
  (callsIn_wide (n := 6)).1 (below_in seed at_ n (kN seed at_ n) (k_first seed at_ n hn hnM).2 (k_first seed at_ n hn hnM).1 hn hat hnM _ _ rfl rfl w)

set_option maxRecDepth 100000 in
set_option maxHeartbeats 4000000 in
theorem Below_zero (seed at_ : Nat) (w : World) :
    Calls Try.prog 15 #[.int .u64 (seed : Int), .int .u64 (at_ : Int), .int .u64 0] w fun e w' => e = .returned (.tuple #[.int .u64 0, .int .u64 0, .int .i64 2]) ∧ w' = w := by
  go_enter Try.func15, Try.ntmps15
  go_wp2
  go_ret3
  exact ⟨rfl, rfl⟩
set_option maxRecDepth 100000 in
set_option maxHeartbeats 4000000 in
theorem Below_any (seed at_ n : Nat) (hn : 0 < n) (hat : at_ < 18446744073709551616) (hnM : n < 18446744073709551616) (w : World) :
    Calls Try.prog 15 #[.int .u64 (seed : Int), .int .u64 (at_ : Int), .int .u64 (n : Int)] w fun e w' => e = .returned (.tuple #[.int .u64 (belowN seed at_ n : Nat), .int .u64 (nextN seed at_ n : Nat), .int .i64 0]) ∧ Below w.heap.size w w' := by
  have q0 := nat_eq_zero_no (Nat.pos_iff_ne_zero.1 hn)
  have HB := Lib.hid (below_any seed at_ n hn hat hnM w)
  generalize belowN seed at_ n = v at *
  generalize nextN seed at_ n = x at *
  clear hn hat hnM
  go_enter Try.func15, Try.ntmps15
  go_wp2_with (go_at_call 27; refine HB.out.mono ?_; rintro e w' ⟨rfl, hb⟩; have HBB := Lib.hid hb; clear hb)
  go_ret3
  exact ⟨rfl, HBB.out⟩

set_option maxRecDepth 100000 in
set_option maxHeartbeats 4000000 in
theorem rBelow_zero (seed at_ : Nat) (w : World) :
    Calls Try.prog 16 #[.int .u64 (seed : Int), .int .u64 (at_ : Int), .int .u64 0] w fun e w' => e = .returned (.tuple #[.int .u64 0, .int .u64 0, .int .i64 2]) ∧ w' = w := by
  go_enter Try.func16, Try.ntmps16
  go_wp2
  go_ret3
  exact ⟨rfl, rfl⟩
theorem rbnd_walk {n : Nat} (h : 0 < n) : ∃ q : Nat, IntKind.u64.wrap ((18446744073709551615 : Int).tdiv (n : Int)) = (q : Int) ∧ IntKind.u64.wrap ((q : Int) * (n : Int)) = (bndN n : Nat) := by
  have e := Nat.div_add_mod 18446744073709551615 n
  refine ⟨18446744073709551615 / n, ?_, ?_⟩
  · have := Nat.div_le_self 18446744073709551615 n
    rw [IntKind.wrap_u64, show ((18446744073709551615 : Int).tdiv (n : Int)) = ((18446744073709551615 / n : Nat) : Int) from rfl]
    generalize 18446744073709551615 / n = q at *
    omega
  · rw [IntKind.wrap_u64, ← Int.natCast_mul, Nat.mul_comm]
    unfold bndN
    have := Nat.mod_le 18446744073709551615 n
    generalize 18446744073709551615 % n = r at *
    generalize n * (18446744073709551615 / n) = m at *
    omega
set_option maxRecDepth 100000 in
set_option maxHeartbeats 8000000 in
theorem rBelow_any (seed at_ n : Nat) (hn : 0 < n) (hat : at_ < 18446744073709551616) (hnM : n < 18446744073709551616) (w : World) :
    Calls Try.prog 16 #[.int .u64 (seed : Int), .int .u64 (at_ : Int), .int .u64 (n : Int)] w fun e w' => e = .returned (.tuple #[.int .u64 (belowN seed at_ n : Nat), .int .u64 (nextN seed at_ n : Nat), .int .i64 0]) ∧ w' = w := by
  have q0 := nat_eq_zero_no (Nat.pos_iff_ne_zero.1 hn)
  obtain ⟨q, e1, e2⟩ := rbnd_walk hn
  obtain ⟨hk1, hk2⟩ := k_first seed at_ n hn hnM
  have HV := Lib.hid (show belowN seed at_ n = drN seed ((at_ + kN seed at_ n) % 18446744073709551616) % n from rfl)
  have HX := Lib.hid (show nextN seed at_ n = (at_ + kN seed at_ n + 1) % 18446744073709551616 from rfl)
  generalize belowN seed at_ n = v at *
  generalize nextN seed at_ n = x at *
  generalize kN seed at_ n = k at *
  go_enter Try.func16, Try.ntmps16
  go_wp2
  go_loopw [1, 10] (fun va _ wr => ∃ (i m : Nat), va = .int .u64 (m : Int) ∧ m = (at_ + i) % 18446744073709551616 ∧ i ≤ k ∧ wr = w)
    (fun va _ _ => k - ((RowKit.intOf va - at_) % 18446744073709551616).toNat)
  case atStart => exact ⟨0, at_, rfl, by omega, Nat.zero_le _, rfl⟩
  case round =>
    obtain ⟨i, m, rfl, hm, hi, rfl⟩ := hrel
    obtain ⟨p, s, e3, e4, e5⟩ := dr_steps seed m
    obtain ⟨m', e6, e7⟩ := num_next at_ i m hm
    by_cases hd : drN seed m < bndN n
    · have hik : i = k := by
        rcases Nat.lt_or_eq_of_le hi with h | h
        · exact absurd hd (by rw [hm]; exact hk2.2 i h)
        · exact h
      subst hik
      have hv : v = drN seed m % n := by rw [hm]; exact HV.out
      have hx : x = m' := by have := HX.out; omega
      rw [← e5] at hd hv
      have e8 : (mixN s : Int) % (n : Int) = (v : Int) := by rw [hv]; rfl
      have d1 : (mixN s : Int) < (bndN n : Nat) := by omega
      clear hd hv hm e7 hk2 e5
      subst hx
      go_wp2_with (go_at_call 14; refine (rmix_any _ _).mono ?_; rintro e w' ⟨rfl, rfl⟩)
      go_ret3
      exact ⟨by rw [← e8]; rfl, rfl⟩
    · have hik : i < k := by
        rcases Nat.lt_or_eq_of_le hi with h | h
        · exact h
        · exact absurd (by rw [hm, h]; exact hk2.1) hd
      rw [← e5] at hd
      have d1 : ¬ (mixN s : Int) < (bndN n : Nat) := by omega
      have HM := Lib.hid hm
      have HM' := Lib.hid e7
      clear hd hm e7 hk2 e5
      go_wp2_with (go_at_call 14; refine (rmix_any _ _).mono ?_; rintro e w' ⟨rfl, rfl⟩)
      go_roundw
      case rel => exact ⟨i + 1, m', rfl, HM'.out, hik, by first | rfl | trivial⟩
      case measure =>
        have h1 := HM.out
        have h2 := HM'.out
        clear HM HM' HV HX
        simp [RowKit.intOf]
        omega
end Go.Proofs.Ytdhefefhipdlcaa
