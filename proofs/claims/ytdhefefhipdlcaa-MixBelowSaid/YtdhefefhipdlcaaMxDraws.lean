/- mix.draws: the draws from a seed, one by one. -/
import Derived.Test.YtdhefefhipdlcaaMxMix
import Derived.Test.YtdhefefhipdlcaaMxRange
namespace Go.Proofs.Ytdhefefhipdlcaa
open Go.RowKit Go.Lib Go.Shelf
attribute [local go_sem] Oper.semAt_some

/-- The i-th round's numbers: the draw's number, and the draw. -/
def dEnc (seed at_ i : Nat) : Array Value := #[.int .u64 ((at_ + i) % 18446744073709551616 : Nat), .int .u64 (drN seed ((at_ + i) % 18446744073709551616) : Nat)]

theorem draws_make (n : Nat) (seed at_ : Nat) (w : World) :
    CallsIn Fence.wide n Try.prog 33 #[.int .u64 (seed : Int), .int .u64 (at_ : Int)] w fun e w' => e = .returned (.func (.func 36) #[] #[.pointer (some ⟨w.heap.size + 1, 0, none⟩), .pointer (some ⟨w.heap.size, 0, none⟩)]) ∧ w' = (w.alloc (.cells #[.int .u64 (seed : Int)] 22)).alloc (.cells #[.int .u64 (at_ : Int)] 22) := by
  refine callsIn_of_wp Try.func33 rfl trivial ?_ rfl
  simp only [Try.ntmps33, List.size_toArray, List.length_cons, List.length_nil, Nat.reduceAdd, Nat.reduceSub, Array.replicate_succ, Array.replicate_zero, List.push_toArray, List.append_toArray, List.nil_append, List.cons_append]
  gi_wp2
  go_ret
  exact ⟨rfl, rfl⟩

theorem dr_steps (seed m : Nat) : ∃ p q : Nat, IntKind.u64.wrap ((m : Int) * 11400714819323198485) = (p : Int) ∧ IntKind.u64.wrap ((seed : Int) + (p : Int)) = (q : Int) ∧ mixN q = drN seed m := by
  refine ⟨m * 11400714819323198485 % 18446744073709551616, (seed + m * 11400714819323198485 % 18446744073709551616) % 18446744073709551616, ?_, ?_, ?_⟩
  · rw [IntKind.wrap_u64]; omega
  · rw [IntKind.wrap_u64]; omega
  · unfold drN
    rw [Nat.add_mod_mod]
theorem num_next (at_ i m : Nat) (h : m = (at_ + i) % 18446744073709551616) : ∃ m' : Nat, IntKind.u64.wrap ((m : Int) + 1) = (m' : Int) ∧ m' = (at_ + (i + 1)) % 18446744073709551616 := by
  refine ⟨(m + 1) % 18446744073709551616, ?_, by omega⟩
  rw [IntKind.wrap_u64]; omega

set_option maxRecDepth 100000 in
set_option maxHeartbeats 4000000 in
theorem draws_in (n : Nat) (hn : 3 ≤ n) (l Bf Bs R seed at_ N : Nat) (hs : Bs ≠ R) (hf : Bf ≠ R) (hat : at_ < 18446744073709551616) (hN : N < 18446744073709551615) (J Jx : Nat → World → Prop) (W : World)
    (hY : ∀ i V, J i V → YieldAt Fence.wide (n - 1) Try.prog l (dEnc seed at_ i) V fun e W' =>
      (e = .returned (.bool true) ∧ i < N ∧ J (i + 1) W' ∧ KpC R V W') ∨ (e = .returned (.bool false) ∧ Jx (i + 1) W'))
    (cs : W.heap[Bs]? = some (.cells #[.int .u64 (seed : Int)] 22 (0, 0))) (cf : W.heap[Bf]? = some (.cells #[.int .u64 (at_ : Int)] 22 (0, 0))) (h0 : J 0 W) :
    CallsIn Fence.wide n Try.prog 36 #[.func (.yield l) #[] #[], .pointer (some ⟨Bf, 0, none⟩), .pointer (some ⟨Bs, 0, none⟩)] W fun e W' => (∃ v, e = .returned v) ∧ ∃ i, Jx i W' := by
  have h1 : 1 ≤ n := by omega
  have h2 : 1 ≤ n - 1 - 1 := by omega
  have HY := Lib.hid hY
  have CS := Lib.hid cs
  have CF := Lib.hid cf
  have c0 := cell_blk (i := 0) cf
  simp at c0
  clear hY cs cf
  refine callsIn_of_wp Try.func36 rfl trivial ?_ rfl
  simp only [Try.ntmps36, List.size_toArray, List.length_cons, List.length_nil, Nat.reduceAdd, Nat.reduceSub, Array.replicate_succ, Array.replicate_zero, List.push_toArray, List.append_toArray, List.nil_append, List.cons_append]
  gi_wp2
  gi_loopw [4] (fun vn wr => ∃ i m : Nat, vn = .int .u64 (m : Int) ∧ m = (at_ + i) % 18446744073709551616 ∧ i ≤ N ∧ J i wr ∧ wr.heap[Bs]? = some (.cells #[.int .u64 (seed : Int)] 22 (0, 0)) ∧ wr.heap[Bf]? = some (.cells #[.int .u64 (at_ : Int)] 22 (0, 0)))
    (fun vn _ => N - ((RowKit.intOf vn - at_) % 18446744073709551616).toNat)
  case atStart => exact ⟨0, at_, by rfl, by omega, Nat.zero_le _, h0, CS.out, CF.out⟩
  case round =>
    obtain ⟨i, m, rfl, hm, hi, hJs, cs, cf⟩ := hrel
    rename World => wA
    obtain ⟨p, q, e1, e2, e3⟩ := dr_steps seed m
    obtain ⟨m', e4, e5⟩ := num_next at_ i m hm
    obtain ⟨fn, tmps, assign, body, hy, hR⟩ := HY.out i wA hJs
    unfold dEnc at hy
    rw [← hm, ← e3] at hy
    have HM := Lib.hid hm
    have HE := Lib.hid e5
    have HJ := Lib.hid hJs
    have CS := Lib.hid cs
    have CF := Lib.hid cf
    have s0 := cell_blk (i := 0) cs
    simp at s0
    clear hm e3 e5 hJs cs cf
    gi_wp2_with (refine ⟨trivial, ?_⟩; gi_at_call 13; refine (callsIn_wide.2 (mix_any _ _)).mono ?_; rintro e w' ⟨rfl, rfl⟩)
    refine hR.mono ?_
    rintro e W3 (⟨rfl, hlt, hJ3, hk⟩ | ⟨rfl, hx⟩)
    · have cs3 := hk.same _ _ hs CS.out rfl
      have cf3 := hk.same _ _ hf CF.out rfl
      have HJ3 := Lib.hid hJ3
      have CS3 := Lib.hid cs3
      have CF3 := Lib.hid cf3
      clear hJ3 cs3 cf3 hk hR hy
      gi_wp2
      go_roundw
      case rel => exact ⟨i + 1, m', by rfl, HE.out, by omega, HJ3.out, CS3.out, CF3.out⟩
      case measure =>
        have hm1 := HM.out
        have hm2 := HE.out
        clear HM HE HJ HJ3 CS CF CS3 CF3 HY
        simp [RowKit.intOf]
        omega
    · gi_wp2
      go_end0
      exact ⟨⟨_, rfl⟩, i + 1, hx⟩
/-- The contract of draws' function. -/
theorem draws_seq (n : Nat) (hn : 3 ≤ n) (Bf Bs R seed at_ N : Nat) (hs : Bs ≠ R) (hf : Bf ≠ R) (hat : at_ < 18446744073709551616) (hN : N < 18446744073709551615) (w : World)
    (cs : w.heap[Bs]? = some (.cells #[.int .u64 (seed : Int)] 22 (0, 0))) (cf : w.heap[Bf]? = some (.cells #[.int .u64 (at_ : Int)] 22 (0, 0))) :
    SeqN n Try.prog 36 #[.pointer (some ⟨Bf, 0, none⟩), .pointer (some ⟨Bs, 0, none⟩)] (dEnc seed at_) (KpC R) N w := fun l J Jx W hW _ _ _ hY h0 =>
  draws_in n hn l Bf Bs R seed at_ N hs hf hat hN J Jx W hY ((hW.block _ (heap_lt cs)).trans cs) ((hW.block _ (heap_lt cf)).trans cf) h0
end Go.Proofs.Ytdhefefhipdlcaa
