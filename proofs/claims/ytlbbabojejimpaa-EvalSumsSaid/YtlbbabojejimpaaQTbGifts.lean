import Derived.Test.YtlbbabojejimpaaQTbMight
import Derived.RangeFuncNested
import Derived.RangeFuncBound
import Derived.RangeFuncCalls
import Derived.RangeFuncLeaves
import Derived.RangeFuncBox
import Derived.Shelf.Abstract
import Derived.OwnWalkIn
import Derived.TacticsInMore
import Derived.LoopNIn
import Derived.LoopIn
/- might.gifts: the steps of a kind's effects that give attack, one by one. -/
namespace Go.Proofs.Ytlbbabojejimpaa
open Go.RowKit Go.Lib Go.Shelf
attribute [local go_sem] Oper.semAt_some

/-- A step, as it lies. -/
structure SX where
  dof : Nat
  side : Nat
  op : Nat
  n : Int
  ns : Nat
  a1 : Nat
  a2 : Nat
  a3 : Nat
  qa : Option Addr
  na : Nat
  ca : Nat
  all : Bool
  s1 : Nat
  s2 : Nat
  s3 : Nat
def SX.row (x : SX) : Array Value := #[.int .u8 x.dof, .int .u8 x.side, .int .u8 x.op, .int .i64 x.n, .int .u8 x.ns, .int .u8 x.a1, .int .u8 x.a2, .int .u8 x.a3, .slice x.qa x.na x.ca, .bool x.all, .int .u8 x.s1, .int .u8 x.s2, .int .u8 x.s3]
def giftB (x : SX) : Bool := x.dof == 7 && (x.all && x.op == 0)
/-- An effect, as it lies, with its steps. -/
structure EX where
  mode : Nat
  ev : Nat
  side : Nat
  qc : Option Addr
  nc : Nat
  cc : Nat
  pay : Int
  dis : Int
  tr : Bool
  pick : Int
  k1 : Nat
  k2 : Nat
  k3 : Nat
  qs : Option Addr
  cs : Nat
  sx : List SX
def EX.row (e : EX) : Array Value := #[.int .u8 e.mode, .int .u8 e.ev, .int .u8 e.side, .slice e.qc e.nc e.cc, .int .i64 e.pay, .int .i64 e.dis, .bool e.tr, .int .i64 e.pick, .int .u8 e.k1, .int .u8 e.k2, .int .u8 e.k3, .slice e.qs e.sx.length e.cs]
def giftsOf (e : EX) : List SX := if e.mode = 6 then e.sx.filter giftB else []
def gifts (es : List EX) : List SX := es.flatMap giftsOf
theorem gifts_next {es : List EX} {i : Nat} {e : EX} (h : es[i]? = some e) : gifts (es.take (i + 1)) = gifts (es.take i) ++ giftsOf e := by
  unfold gifts
  rw [List.take_add_one, h, List.flatMap_append]
  simp
theorem gifts_pre (es : List EX) {i : Nat} {e : EX} (h : es[i]? = some e) {l : List SX} (hl : l <+: giftsOf e) : gifts (es.take i) ++ l <+: gifts es := by
  have h1 : gifts (es.take i) ++ giftsOf e <+: gifts es := by
    rw [← gifts_next h]
    exact ⟨gifts (es.drop (i + 1)), by unfold gifts; rw [← List.flatMap_append, List.take_append_drop]⟩
  exact (List.prefix_append_right_inj _).2 hl |>.trans h1

/-- Effects in memory, with their steps. -/
structure EffsAt (w : World) (B : Nat) (p : Option Addr) (es : List EX) : Prop where
  eff : ∀ (i : Nat) (e : EX), es[i]? = some e → ∃ b o, p = some ⟨b, o, none⟩ ∧ b < B ∧ ∀ (j : Nat) (u : Value), e.row[j]? = some u → w.cell? ⟨b, o + i * 12 + j, none⟩ = some u
  few : es.length ≤ 140737488355328
  stp : ∀ (i : Nat) (e : EX), es[i]? = some e → e.sx.length ≤ 140737488355328 ∧ ∀ (j : Nat) (s : SX), e.sx[j]? = some s → ∃ b o, e.qs = some ⟨b, o, none⟩ ∧ b < B ∧ ∀ (k : Nat) (u : Value), s.row[k]? = some u → w.cell? ⟨b, o + j * 13 + k, none⟩ = some u

/-- What a round keeps: whatever is cells, but for one block. -/
structure KpC (R : Nat) (W W' : World) : Prop where
  size : W.heap.size ≤ W'.heap.size
  same : ∀ (k : Nat) (o : Obj), k ≠ R → W.heap[k]? = some o → o.isCells = true → W'.heap[k]? = some o
theorem KpC.refl (R : Nat) (W : World) : KpC R W W := ⟨Nat.le_refl _, fun _ _ _ h _ => h⟩
theorem KpC.trans {R : Nat} {A B C : World} (h : KpC R A B) (k : KpC R B C) : KpC R A C := ⟨Nat.le_trans h.size k.size, fun i o hi ho hc => k.same i o hi (h.same i o hi ho hc) hc⟩
theorem KpC.below {R : Nat} {W W' : World} (h : Below W.heap.size W W') : KpC R W W' := ⟨h.size, fun k o _ ho _ => (h.block k (heap_lt ho)).trans ho⟩
theorem KpC.put {R : Nat} (W : World) (l : Nat) (o o' : Obj) (hl : W.heap[l]? = some o) (ho : o.isCells = false) : KpC R W (W.putObj l o') :=
  ⟨by simp, fun k x _ hk hx => by
    have : k ≠ l := fun e => by rw [e, hl] at hk; cases hk; rw [ho] at hx; cases hx
    exact (World.putObj_heap_other this).trans hk⟩
theorem KpC.cell {R : Nat} {W W' : World} (h : KpC R W W') {a : Addr} {v : Value} (hr : a.block ≠ R) (hc : W.cell? a = some v) : W'.cell? a = some v := by
  obtain ⟨o, ho, hcc⟩ := cells_of_cell hc
  rw [World.cell?_of_block (w := W) ((h.same _ _ hr ho hcc).trans ho.symm)]
  exact hc
theorem EffsAt.keep {W W' : World} {B R : Nat} {p : Option Addr} {es : List EX} (h : EffsAt W B p es) (hR : B ≤ R) (hk : KpC R W W') : EffsAt W' B p es := by
  refine ⟨fun i e he => ?_, h.few, fun i e he => ?_⟩
  · obtain ⟨b, o, hp, hb, hc⟩ := h.eff i e he
    exact ⟨b, o, hp, hb, fun j u hu => hk.cell (by show b ≠ R; omega) (hc j u hu)⟩
  · obtain ⟨h1, h2⟩ := h.stp i e he
    refine ⟨h1, fun j s hs => ?_⟩
    obtain ⟨b, o, hp, hb, hc⟩ := h2 j s hs
    exact ⟨b, o, hp, hb, fun k u hu => hk.cell (by show b ≠ R; omega) (hc k u hu)⟩

set_option maxHeartbeats 1000000 in
theorem isGift_any (x : SX) (w : World) : Calls Try.prog 56 #[.agg x.row] w fun e w' => e = .returned (.bool (giftB x)) ∧ Below w.heap.size w w' := by
  simp only [SX.row, giftB]
  by_cases h1 : x.dof = 7
  · have e1 : ((x.dof : Int) == 7) = true := by simp [h1]
    have f1 : (x.dof == 7) = true := by simp [h1]
    rw [f1]
    clear f1 h1
    cases h2 : x.all with
    | false =>
      go_enter Try.func56, Try.ntmps56
      go_wp2_with fail
      go_ret
      exact ⟨rfl, (Below.refl _ _).alloc (Nat.le_refl _) _⟩
    | true =>
      have hc : ((x.op : Int) == 0) = (x.op == 0) := by
        by_cases h : x.op = 0
        · simp [h]
        · have h1 : (x.op == 0) = false := by simpa using h
          rw [h1]; simp; omega
      simp only [Bool.true_and]
      rw [← hc]
      clear hc
      go_enter Try.func56, Try.ntmps56
      go_wp2_with fail
      go_ret
      exact ⟨rfl, (Below.refl _ _).alloc (Nat.le_refl _) _⟩
  · have e1 : ((x.dof : Int) == 7) = false := by simp; omega
    have f1 : (x.dof == 7) = false := by simpa using h1
    rw [f1]
    clear f1 h1
    go_enter Try.func56, Try.ntmps56
    go_wp2_with fail
    go_ret
    exact ⟨rfl, (Below.refl _ _).alloc (Nat.le_refl _) _⟩

def sxEnc (x : SX) : Array Value := #[.agg x.row]
set_option maxRecDepth 100000 in
set_option maxHeartbeats 4000000 in
theorem gifts_in (n : Nat) (hn : 1 ≤ n) (l Be B R cap : Nat) (p : Option Addr) (es : List EX) (hR : B ≤ R) (J Jx : List SX → World → Prop)
    (hY : ∀ pre x W, J pre W → pre.length < (gifts es).length → YieldAt Fence.wide (n - 1) Try.prog l (sxEnc x) W fun e W' =>
      (e = .returned (.bool true) ∧ J (pre ++ [x]) W' ∧ KpC R W W') ∨ (e = .returned (.bool false) ∧ Jx (pre ++ [x]) W'))
    (W : World) (hJ : AbidesFrom W.heap.size J) (hBe : W.cell? ⟨Be, 0, none⟩ = some (.slice p es.length cap)) (hE : EffsAt W B p es) (hB : B ≤ W.heap.size) (h0 : J [] W) :
    CallsIn Fence.wide n Try.prog 55 #[.func (.yield l) #[] #[], .pointer (some ⟨Be, 0, none⟩)] W fun e W' => (∃ v, e = .returned v) ∧
      ((∃ ys, ys = gifts es ∧ J ys W') ∨ (∃ pre, pre <+: gifts es ∧ Jx pre W')) := by
  have HE := Lib.hid hE
  have HJ := Lib.hid hJ
  clear hE hJ
  have hal : ∀ (pre : List SX) (A : World) (o : Obj), J pre A → J pre (A.alloc o) := fun pre A o h => HJ.out pre A _ none h (World.grownBy_alloc A o none) (fun r e => by cases e)
  have HAL := Lib.hid hal
  clear hal
  have hfew := HE.out.few
  refine callsIn_of_wp Try.func55 rfl trivial ?_ rfl
  simp only [Try.ntmps55, List.size_toArray, List.length_cons, List.length_nil, Nat.reduceAdd, Nat.reduceSub, Array.replicate_succ, Array.replicate_zero, List.push_toArray, List.append_toArray, List.nil_append, List.cons_append]
  gi_wp2
  gi_loopw [9] (fun vi wr => ∃ k : Nat, vi = .int .i64 k ∧ k ≤ es.length ∧ J (gifts (es.take k)) wr ∧ EffsAt wr B p es ∧ B ≤ wr.heap.size) (fun vi _ => es.length - (RowKit.intOf vi).toNat)
  case atStart => exact ⟨0, by rfl, Nat.zero_le _, by rw [List.take_zero]; exact h0, HE.out, hB⟩
  case round =>
    obtain ⟨k, rfl, hk, hJs, hEr, hBr⟩ := hrel
    rename World => wA
    have HJS := Lib.hid hJs
    have HEr := Lib.hid hEr
    clear hJs hEr
    by_cases hlt : k < es.length
    · obtain ⟨e, he⟩ : ∃ e, es[k]? = some e := ⟨es[k]'hlt, List.getElem?_eq_getElem _⟩
      obtain ⟨b, o, rfl, hb, hc⟩ := HEr.out.eff k e he
      obtain ⟨hsl, hst⟩ := HEr.out.stp k e he
      have HST := Lib.hid hst
      have HEK := Lib.hid he
      have c0 : wA.cell? ⟨b, o + k * 12 + 0, none⟩ = some (.int .u8 e.mode) := hc 0 _ rfl
      have c1 : wA.cell? ⟨b, o + k * 12 + 1, none⟩ = some (.int .u8 e.ev) := hc 1 _ rfl
      have c2 : wA.cell? ⟨b, o + k * 12 + 2, none⟩ = some (.int .u8 e.side) := hc 2 _ rfl
      have c3 : wA.cell? ⟨b, o + k * 12 + 3, none⟩ = some (.slice e.qc e.nc e.cc) := hc 3 _ rfl
      have c4 : wA.cell? ⟨b, o + k * 12 + 4, none⟩ = some (.int .i64 e.pay) := hc 4 _ rfl
      have c5 : wA.cell? ⟨b, o + k * 12 + 5, none⟩ = some (.int .i64 e.dis) := hc 5 _ rfl
      have c6 : wA.cell? ⟨b, o + k * 12 + 6, none⟩ = some (.bool e.tr) := hc 6 _ rfl
      have c7 : wA.cell? ⟨b, o + k * 12 + 7, none⟩ = some (.int .i64 e.pick) := hc 7 _ rfl
      have c8 : wA.cell? ⟨b, o + k * 12 + 8, none⟩ = some (.int .u8 e.k1) := hc 8 _ rfl
      have c9 : wA.cell? ⟨b, o + k * 12 + 9, none⟩ = some (.int .u8 e.k2) := hc 9 _ rfl
      have c10 : wA.cell? ⟨b, o + k * 12 + 10, none⟩ = some (.int .u8 e.k3) := hc 10 _ rfl
      have c11 : wA.cell? ⟨b, o + k * 12 + 11, none⟩ = some (.slice e.qs e.sx.length e.cs) := hc 11 _ rfl
      simp only [Nat.add_zero] at c0
      have i1 : (k : Int) < (es.length : Int) := by omega
      have i0 : (0 : Int) ≤ (k : Int) := by omega
      have hbA : b < wA.heap.size := by omega
      obtain ⟨W1, hW1⟩ : ∃ W1, W1 = wA.alloc (.cells #[.int .u8 e.mode, .int .u8 e.ev, .int .u8 e.side, .slice e.qc e.nc e.cc, .int .i64 e.pay, .int .i64 e.dis, .bool e.tr, .int .i64 e.pick, .int .u8 e.k1, .int .u8 e.k2, .int .u8 e.k3, .slice e.qs e.sx.length e.cs] 48) := ⟨_, rfl⟩
      have hJ1 : J (gifts (es.take k)) W1 := by rw [hW1]; exact HAL.out _ _ _ HJS.out
      have hE1 : EffsAt W1 B (some ⟨b, o, none⟩) es := HEr.out.keep hR (by rw [hW1]; exact KpC.below ((Below.refl _ _).alloc (Nat.le_refl _) _))
      have hS1 : W1.heap.size = wA.heap.size + 1 := by rw [hW1]; simp
      have hX1 : W1.heap[wA.heap.size]? = some (.cells #[.int .u8 e.mode, .int .u8 e.ev, .int .u8 e.side, .slice e.qc e.nc e.cc, .int .i64 e.pay, .int .i64 e.dis, .bool e.tr, .int .i64 e.pick, .int .u8 e.k1, .int .u8 e.k2, .int .u8 e.k3, .slice e.qs e.sx.length e.cs] 48 (0, 0)) := by rw [hW1]; exact heap_alloc_new _ _
      have HJ1 := Lib.hid hJ1
      have HE1 := Lib.hid hE1
      have HW1 := Lib.hid hW1
      have HX1 := Lib.hid hX1
      clear hc he hst hJ1 hE1 hW1 hX1
      by_cases hm : e.mode = 6
      · have em : ((e.mode : Int) != 6) = false := by simp [hm]
        have hg : Hid (giftsOf e = e.sx.filter giftB) := Lib.hid (if_pos hm)
        obtain ⟨N, hN⟩ : ∃ N, e.sx.length = N := ⟨_, rfl⟩
        rw [hN] at c11 hsl
        have HN := Lib.hid hN
        have hW1' := HW1.out
        have hX1' := HX1.out
        rw [hN] at hW1' hX1'
        have HW1 := Lib.hid hW1'
        have HX1 := Lib.hid hX1'
        clear hN hW1' hX1' hm
        gi_wp2
        rw [← HW1.out]
        gi_loopw [19] (fun vi wr => ∃ j : Nat, vi = .int .i64 j ∧ j ≤ N ∧ J (gifts (es.take k) ++ (e.sx.take j).filter giftB) wr ∧ EffsAt wr B (some ⟨b, o, none⟩) es ∧ B ≤ wr.heap.size) (fun vi _ => N - (RowKit.intOf vi).toNat)
        case atStart => exact ⟨0, by rfl, Nat.zero_le _, by simpa using HJ1.out, HE1.out, by omega⟩
        case round =>
          obtain ⟨j, rfl, hj, hJs, hEr, hBr⟩ := hrel
          rename World => wB
          have HJS := Lib.hid hJs
          have HEr := Lib.hid hEr
          clear hJs hEr
          by_cases hjt : j < N
          · obtain ⟨x, hx⟩ : ∃ x, e.sx[j]? = some x := ⟨e.sx[j]'(by have := HN.out; omega), List.getElem?_eq_getElem _⟩
            obtain ⟨g, q, hqs, hg', hcx⟩ := (HEr.out.stp k e HEK.out).2 j x hx
            have d0 : wB.cell? ⟨g, q + j * 13 + 0, none⟩ = some (.int .u8 x.dof) := hcx 0 _ rfl
            have d1 : wB.cell? ⟨g, q + j * 13 + 1, none⟩ = some (.int .u8 x.side) := hcx 1 _ rfl
            have d2 : wB.cell? ⟨g, q + j * 13 + 2, none⟩ = some (.int .u8 x.op) := hcx 2 _ rfl
            have d3 : wB.cell? ⟨g, q + j * 13 + 3, none⟩ = some (.int .i64 x.n) := hcx 3 _ rfl
            have d4 : wB.cell? ⟨g, q + j * 13 + 4, none⟩ = some (.int .u8 x.ns) := hcx 4 _ rfl
            have d5 : wB.cell? ⟨g, q + j * 13 + 5, none⟩ = some (.int .u8 x.a1) := hcx 5 _ rfl
            have d6 : wB.cell? ⟨g, q + j * 13 + 6, none⟩ = some (.int .u8 x.a2) := hcx 6 _ rfl
            have d7 : wB.cell? ⟨g, q + j * 13 + 7, none⟩ = some (.int .u8 x.a3) := hcx 7 _ rfl
            have d8 : wB.cell? ⟨g, q + j * 13 + 8, none⟩ = some (.slice x.qa x.na x.ca) := hcx 8 _ rfl
            have d9 : wB.cell? ⟨g, q + j * 13 + 9, none⟩ = some (.bool x.all) := hcx 9 _ rfl
            have d10 : wB.cell? ⟨g, q + j * 13 + 10, none⟩ = some (.int .u8 x.s1) := hcx 10 _ rfl
            have d11 : wB.cell? ⟨g, q + j * 13 + 11, none⟩ = some (.int .u8 x.s2) := hcx 11 _ rfl
            have d12 : wB.cell? ⟨g, q + j * 13 + 12, none⟩ = some (.int .u8 x.s3) := hcx 12 _ rfl
            simp only [Nat.add_zero] at d0
            have j1 : (j : Int) < (N : Int) := by omega
            have j0 : (0 : Int) ≤ (j : Int) := by omega
            have hgB : g < wB.heap.size := by omega
            have HX := Lib.hid hx
            have hig := Lib.hid fun W => isGift_any x W
            have hfl : Hid ((e.sx.take (j + 1)).filter giftB = (e.sx.take j).filter giftB ++ (if giftB x then [x] else [])) := Lib.hid (by
              rw [List.take_add_one, hx, List.filter_append]
              simp [List.filter_cons])
            obtain ⟨W2, hW2⟩ : ∃ W2, W2 = wB.alloc (.cells #[.int .u8 x.dof, .int .u8 x.side, .int .u8 x.op, .int .i64 x.n, .int .u8 x.ns, .int .u8 x.a1, .int .u8 x.a2, .int .u8 x.a3, .slice x.qa x.na x.ca, .bool x.all, .int .u8 x.s1, .int .u8 x.s2, .int .u8 x.s3] 70) := ⟨_, rfl⟩
            have HW2 := Lib.hid hW2
            have hX2 : W2.heap[wB.heap.size]? = some (.cells #[.int .u8 x.dof, .int .u8 x.side, .int .u8 x.op, .int .i64 x.n, .int .u8 x.ns, .int .u8 x.a1, .int .u8 x.a2, .int .u8 x.a3, .slice x.qa x.na x.ca, .bool x.all, .int .u8 x.s1, .int .u8 x.s2, .int .u8 x.s3] 70 (0, 0)) := by rw [hW2]; exact heap_alloc_new _ _
            have hb2 : Below wB.heap.size wB W2 := by rw [hW2]; exact (Below.refl _ _).alloc (Nat.le_refl _) _
            have HX2 := Lib.hid hX2
            have HB2 := Lib.hid hb2
            clear hcx hx hW2 hX2 hb2
            rw [hqs]
            simp only [SX.row] at hig
            have hpre : Hid (giftB x = true → (gifts (es.take k) ++ (e.sx.take j).filter giftB) ++ [x] <+: gifts es) := Lib.hid fun hb => by
              have h1 : (e.sx.take (j + 1)).filter giftB <+: giftsOf e := by rw [hg.out]; exact (List.take_prefix _ _).filter _
              have h2 := gifts_pre es HEK.out h1
              rw [hfl.out, if_pos hb, ← List.append_assoc] at h2
              exact h2
            gi_wp2_with fail
            refine ⟨trivial, (callsIn_wide.2 (hig.out _)).mono ?_⟩
            rw [← HW2.out]
            rintro e' w3 ⟨rfl, b3⟩
            have hB3 : Below wB.heap.size wB w3 := HB2.out.trans (b3.mono HB2.out.size)
            have hJ3 : J (gifts (es.take k) ++ (e.sx.take j).filter giftB) w3 := HJ.out _ _ _ none HJS.out ⟨hB3.os, hB3.tape, hB3.output, hB3.size, fun i hi _ => hB3.block i hi⟩ (fun r e => by cases e)
            have HJ3 := Lib.hid hJ3
            have HE3 := Lib.hid (HEr.out.keep hR (KpC.below hB3))
            have hs3 : B ≤ w3.heap.size := Nat.le_trans hBr hB3.size
            have hX3 := (b3.block _ (heap_lt HX2.out)).trans HX2.out
            have hlt3 := heap_lt hX3
            cases hgb : giftB x with
            | false =>
              clear b3 hB3 hX3 hJ3
              gi_wp2
              refine ⟨fun _ h => (by cases h), ?_⟩
              gi_wp2
              go_roundw
              case rel => exact ⟨j + 1, by go_num, by omega, by rw [hfl.out, hgb]; simpa using HJ3.out, HE3.out, hs3⟩
              case measure => simp [RowKit.intOf]; omega
            | true =>
              obtain ⟨fn, tmps, assign, body, hy, hRd⟩ := hY _ x w3 hJ3 (by have := (hpre.out hgb).length_le; simp only [List.length_append, List.length_singleton] at this ⊢; omega)
              have y0 := cell_blk (i := 0) hX3; have y1 := cell_blk (i := 1) hX3; have y2 := cell_blk (i := 2) hX3; have y3 := cell_blk (i := 3) hX3; have y4 := cell_blk (i := 4) hX3; have y5 := cell_blk (i := 5) hX3; have y6 := cell_blk (i := 6) hX3; have y7 := cell_blk (i := 7) hX3; have y8 := cell_blk (i := 8) hX3; have y9 := cell_blk (i := 9) hX3; have y10 := cell_blk (i := 10) hX3; have y11 := cell_blk (i := 11) hX3; have y12 := cell_blk (i := 12) hX3; have yf0 := free_blk (i := 0) hX3; have yf1 := free_blk (i := 1) hX3; have yf2 := free_blk (i := 2) hX3; have yf3 := free_blk (i := 3) hX3; have yf4 := free_blk (i := 4) hX3; have yf5 := free_blk (i := 5) hX3; have yf6 := free_blk (i := 6) hX3; have yf7 := free_blk (i := 7) hX3; have yf8 := free_blk (i := 8) hX3; have yf9 := free_blk (i := 9) hX3; have yf10 := free_blk (i := 10) hX3; have yf11 := free_blk (i := 11) hX3; have yf12 := free_blk (i := 12) hX3; simp at y0 y1 y2 y3 y4 y5 y6 y7 y8 y9 y10 y11 y12
              simp only [sxEnc, SX.row] at hy
              clear b3 hB3 hX3 hJ3
              gi_wp2
              refine hRd.mono ?_
              rintro e' W4 (⟨rfl, hJ4, hk4⟩ | ⟨rfl, hJx4⟩)
              · have HJ4 := Lib.hid hJ4
                have HK4 := Lib.hid hk4
                have hs4 : B ≤ W4.heap.size := Nat.le_trans hs3 hk4.size
                clear hJ4 hk4
                gi_wp2
                go_roundw
                case rel => exact ⟨j + 1, by go_num, by omega, by rw [hfl.out, hgb, if_pos rfl, ← List.append_assoc]; exact HJ4.out, HE3.out.keep hR HK4.out, hs4⟩
                case measure => simp [RowKit.intOf]; omega
              · gi_wp2
                refine bodyPost_ret (results_none rfl _ _ _) rfl ?_
                exact ⟨⟨_, rfl⟩, .inr ⟨_, hpre.out hgb, hJx4⟩⟩
          · obtain rfl : j = N := by omega
            have hJn := HJS.out
            rw [← HN.out, List.take_length, ← hg.out, ← gifts_next HEK.out] at hJn
            have HJN := Lib.hid hJn
            clear hJn
            gi_wp2
            go_roundw
            case rel => exact ⟨k + 1, by go_num, by omega, HJN.out, HEr.out, hBr⟩
            case measure => simp [RowKit.intOf]; omega
      · have em : ((e.mode : Int) != 6) = true := by simp; omega
        have hg : Hid (gifts (es.take (k + 1)) = gifts (es.take k)) := Lib.hid (by rw [gifts_next HEK.out, show giftsOf e = [] from if_neg hm, List.append_nil])
        clear hm
        gi_wp2
        rw [← HW1.out]
        go_roundw
        case rel => exact ⟨k + 1, by go_num, by omega, by rw [hg.out]; exact HJ1.out, HE1.out, by omega⟩
        case measure => simp [RowKit.intOf]; omega
    · obtain rfl : k = es.length := by omega
      gi_wp2
      go_end0
      exact ⟨⟨_, rfl⟩, .inl ⟨_, rfl, by have := HJS.out; rwa [List.take_length] at this⟩⟩
end Go.Proofs.Ytlbbabojejimpaa
