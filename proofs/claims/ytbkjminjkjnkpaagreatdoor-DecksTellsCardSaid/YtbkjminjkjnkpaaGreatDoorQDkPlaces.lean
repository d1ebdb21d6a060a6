import Derived.Test.YtbkjminjkjnkpaaGreatDoorQDkMem
import Derived.RangeFuncNested
import Derived.RangeFuncBound
import Derived.RangeFuncCalls
import Derived.RangeFuncLeaves
import Derived.RangeFuncBox
import Derived.Shelf.Abstract
import Derived.WalkKit
import Derived.OwnWalkIn
import Derived.TacticsInMore
import Derived.LoopNIn
import Derived.LoopIn
/- Layer 5 (decks): decks.placesOf: a map from the names of kinds to the first place of each; slices.Backward. -/
namespace Go.Proofs.YtbkjminjkjnkpaaGreatDoor
open Go.RowKit Go.Lib Go.Shelf
attribute [local go_sem] Oper.semAt_some

/-- A kind of cards, as it came in. -/
structure KC where
  name : ByteArray
  kind : Nat
  lv : Int
  at_ : Int
  gd : Int
  ea : Option Addr
  en : Nat
  ec : Nat
def KC.row (k : KC) : Array Value := #[.string k.name, .int .u8 k.kind, .int .i64 k.lv, .int .i64 k.at_, .int .i64 k.gd, .slice k.ea k.en k.ec]
/-- Kinds in memory, behind a slice's address. -/
def KindsAt (w : World) (p : Option Addr) (ks : List KC) : Prop :=
  0 < ks.length → ∃ b o, p = some ⟨b, o, none⟩ ∧ ∀ (i : Nat) (k : KC), ks[i]? = some k → ∀ (j : Nat) (u : Value), k.row[j]? = some u → w.cell? ⟨b, o + i * 6 + j, none⟩ = some u
theorem KindsAt.below {w w' : World} {p : Option Addr} {ks : List KC} (h : KindsAt w p ks) (hb : Below w.heap.size w w') : KindsAt w' p ks := fun h0 => by
  obtain ⟨b, o, hp, hc⟩ := h h0
  refine ⟨b, o, hp, fun i k hk j u hu => ?_⟩
  have := hc i k hk j u hu
  rw [World.cell?_of_block (w := w) (hb.block _ (World.block_lt_of_cell? _ _ this))]; exact this
theorem KindsAt.kept {w w' : World} {R : Nat} {p : Option Addr} {ks : List KC} (h : KindsAt w p ks) (hb : Kept R w w') (hR : ∀ a, p = some a → a.block ≠ R) : KindsAt w' p ks := fun h0 => by
  obtain ⟨b, o, hp, hc⟩ := h h0
  refine ⟨b, o, hp, fun i k hk j u hu => hb.cell (a := ⟨b, o + i * 6 + j, none⟩) (hR ⟨b, o, none⟩ hp) (hc i k hk j u hu)⟩

/-- A kind, at its place. -/
structure KX where
  i : Nat
  k : KC
  hi : i ≤ maxLen
  hn : k.name.size ≤ maxLen
def KC.none_ : KC := ⟨⟨#[]⟩, 0, 0, 0, 0, none, 0, 0⟩
/-- The round's kind: from the last one on. -/
def kx (ks : List KC) (hm : ks.length ≤ maxLen) (hs : ∀ k ∈ ks, k.name.size ≤ maxLen) (j : Nat) : KX :=
  ⟨ks.length - 1 - j, ks.getD (ks.length - 1 - j) KC.none_, by omega, by
    rw [List.getD_eq_getElem?_getD]
    cases h : ks[ks.length - 1 - j]? with
    | none => exact Nat.zero_le _
    | some k => exact hs k (List.mem_of_getElem? h)⟩
def upto {α : Type} (f : Nat → α) (k : Nat) : List α := (List.range k).map f
theorem upto_succ {α : Type} (f : Nat → α) (k : Nat) : upto f (k + 1) = upto f k ++ [f k] := by simp [upto, List.range_succ]
theorem upto_length {α : Type} (f : Nat → α) (k : Nat) : (upto f k).length = k := by simp [upto]
def kEnc (x : KX) : Array Value := #[.int .i64 (x.i : Int), .agg x.k.row]

/-- What a round keeps: what lay below a block, and one block. -/
def KpB (n₀ Bs : Nat) (W W' : World) : Prop := Below n₀ W W' ∧ W'.heap[Bs]? = W.heap[Bs]?
theorem KpB.refl (n₀ Bs : Nat) (W : World) : KpB n₀ Bs W W := ⟨Below.refl _ _, rfl⟩
theorem KpB.trans {n₀ Bs : Nat} {A B C : World} (h : KpB n₀ Bs A B) (k : KpB n₀ Bs B C) : KpB n₀ Bs A C := ⟨h.1.trans k.1, k.2.trans h.2⟩
set_option maxRecDepth 100000 in
set_option maxHeartbeats 2000000 in
theorem back_in (F : Fence) (n : Nat) (hF : F.fn 59) (hro : F.round = none) (hn : 1 ≤ n) (l Bs n₀ b o cap : Nat) (ks : List KC) (hm : ks.length ≤ 4611686018427387904) (hm' : ks.length ≤ maxLen) (hs : ∀ k ∈ ks, k.name.size ≤ maxLen) (hb : b < n₀) (J Jx : List KX → World → Prop)
    (hY : ∀ pre x W, J pre W → pre.length < ks.length → YieldAt F (n - 1) Tryz.prog l (kEnc x) W fun e W' =>
      (e = .returned (.bool true) ∧ J (pre ++ [x]) W' ∧ KpB n₀ Bs W W') ∨ (e = .returned (.bool false) ∧ Jx (pre ++ [x]) W'))
    (W : World) (hBs : W.cell? ⟨Bs, 0, none⟩ = some (.slice (some ⟨b, o, none⟩) ks.length cap)) (hc : ∀ (i : Nat) (k : KC), ks[i]? = some k → ∀ (j : Nat) (u : Value), k.row[j]? = some u → W.cell? ⟨b, o + i * 6 + j, none⟩ = some u) (h0 : J [] W) :
    CallsIn F n Tryz.prog 59 #[.func (.yield l) #[] #[], .pointer (some ⟨Bs, 0, none⟩)] W fun e W' => (∃ v, e = .returned v) ∧
      ((∃ ys, ys = upto (kx ks hm' hs) ks.length ∧ J ys W') ∨ (∃ pre, (∃ k, k ≤ ks.length ∧ pre = upto (kx ks hm' hs) k) ∧ Jx pre W')) := by
  have HC := Lib.hid hc
  clear hc
  refine callsIn_of_wp Tryz.func59 rfl hF ?_ hro
  simp only [Tryz.ntmps59, List.size_toArray, List.length_cons, List.length_nil, Nat.reduceAdd, Nat.reduceSub, Array.replicate_succ, Array.replicate_zero, List.push_toArray, List.append_toArray, List.nil_append, List.cons_append]
  gi_wp2
  gi_loopw [3] (fun i wr => ∃ k : Nat, k ≤ ks.length ∧ i = .int .i64 ((ks.length : Int) - 1 - k) ∧ J (upto (kx ks hm' hs) k) wr ∧ KpB n₀ Bs W wr)
    (fun i _ => (RowKit.intOf i + 1).toNat)
  case atStart => exact ⟨0, Nat.zero_le _, by simp, h0, KpB.refl _ _ _⟩
  case round =>
    obtain ⟨k, hk, rfl, hJs, hnx⟩ := hrel
    by_cases hlt : k < ks.length
    · obtain ⟨c, hck⟩ : ∃ c, ks[ks.length - 1 - k]? = some c := ⟨ks[ks.length - 1 - k]'(by omega), List.getElem?_eq_getElem _⟩
      have hx : kx ks hm' hs k = ⟨ks.length - 1 - k, c, by omega, hs c (List.mem_of_getElem? hck)⟩ := by
        unfold kx
        congr 1
        rw [List.getD_eq_getElem?_getD, hck]; rfl
      obtain ⟨fn, tmps, assign, body, hy, hR⟩ := hY _ ⟨ks.length - 1 - k, c, by omega, hs c (List.mem_of_getElem? hck)⟩ wr hJs (by rw [upto_length]; exact hlt)
      have hcc := fun j u hu => (hnx.1.cell (p := ⟨b, o + (ks.length - 1 - k) * 6 + j, none⟩) hb).trans (HC.out _ c hck j u hu)
      obtain ⟨nm, kd, lv, at_, gd, ea, en, ec⟩ := c
      obtain ⟨m, hm1⟩ : ∃ m, ks.length - 1 - k = m := ⟨_, rfl⟩
      have hm2 : ((ks.length : Int) - 1 - (k : Int)) = (m : Int) := by omega
      simp only [hm1] at hcc hy hR hx hck
      have c0 : wr.cell? ⟨b, o + m * 6, none⟩ = some (.string nm) := hcc 0 _ rfl
      have c1 : wr.cell? ⟨b, o + m * 6 + 1, none⟩ = some (.int .u8 kd) := hcc 1 _ rfl
      have c2 : wr.cell? ⟨b, o + m * 6 + 2, none⟩ = some (.int .i64 lv) := hcc 2 _ rfl
      have c3 : wr.cell? ⟨b, o + m * 6 + 3, none⟩ = some (.int .i64 at_) := hcc 3 _ rfl
      have c4 : wr.cell? ⟨b, o + m * 6 + 4, none⟩ = some (.int .i64 gd) := hcc 4 _ rfl
      have c5 : wr.cell? ⟨b, o + m * 6 + 5, none⟩ = some (.slice ea en ec) := hcc 5 _ rfl
      have cB : wr.cell? ⟨Bs, 0, none⟩ = some (.slice (some ⟨b, o, none⟩) ks.length cap) := (World.cell?_of_block (w := W) (a := ⟨Bs, 0, none⟩) hnx.2).trans hBs
      simp only [kEnc, KC.row] at hy
      have hxx := Lib.hid hx
      clear hcc hx
      have i1 : (m : Int) ≥ 0 := by omega
      have i2 : (m : Int) < ks.length := by omega
      have i3 : (0 : Int) ≤ (m : Int) := by omega
      have hml : m < ks.length := by omega
      rw [hm2]
      have HM2 := Lib.hid hm2
      clear hm2
      gi_wp2
      refine hR.mono ?_
      rintro e W3 (⟨rfl, hJ3, hk3⟩ | ⟨rfl, hJx3⟩)
      · gi_wp2
        go_roundw
        case rel => exact ⟨k + 1, by omega, by have h2 := HM2.out; rw [show ((ks.length : Int) - 1 - ((k + 1 : Nat) : Int)) = (m : Int) - 1 by omega], by rw [upto_succ, hxx.out]; exact hJ3, hnx.trans hk3⟩
        case measure => simp [RowKit.intOf] <;> omega
      · gi_wp2
        refine bodyPost_ret (results_none rfl _ _ _) rfl ?_
        exact ⟨⟨_, rfl⟩, .inr ⟨_, ⟨k + 1, by omega, by rw [upto_succ, hxx.out]⟩, hJx3⟩⟩
    · obtain rfl : k = ks.length := by omega
      have i1 : ¬ ((ks.length : Int) - 1 - (ks.length : Int)) ≥ 0 := by omega
      gi_wp2
      go_end0
      exact ⟨⟨_, rfl⟩, .inl hJs⟩
set_option maxRecDepth 100000 in
set_option maxHeartbeats 1000000 in
theorem back_nil_in (F : Fence) (n : Nat) (hF : F.fn 59) (hro : F.round = none) (l Bs cap : Nat) (p : Option Addr) (J : List KX → World → Prop) (W : World) (hBs : W.cell? ⟨Bs, 0, none⟩ = some (.slice p 0 cap)) (h0 : J [] W) :
    CallsIn F n Tryz.prog 59 #[.func (.yield l) #[] #[], .pointer (some ⟨Bs, 0, none⟩)] W fun e W' => (∃ v, e = .returned v) ∧ J [] W' := by
  refine callsIn_of_wp Tryz.func59 rfl hF ?_ hro
  simp only [Tryz.ntmps59, List.size_toArray, List.length_cons, List.length_nil, Nat.reduceAdd, Nat.reduceSub, Array.replicate_succ, Array.replicate_zero, List.push_toArray, List.append_toArray, List.nil_append, List.cons_append]
  gi_wp2
  gi_loopw [3] (fun i wr => i = .int .i64 (-1) ∧ J [] wr) (fun _ _ => 0)
  case atStart => exact ⟨rfl, h0⟩
  case round =>
    obtain ⟨rfl, hJs⟩ := hrel
    gi_wp2
    go_end0
    exact ⟨⟨_, rfl⟩, hJs⟩
set_option maxHeartbeats 1000000 in
/-- slices.Backward: the slice is boxed; the function value captures the box. -/
theorem backward_in (F : Fence) (n : Nat) (hF : F.fn 34) (hro : F.round = none) (a : Option Addr) (len cap : Nat) (w : World) :
    CallsIn F n Tryz.prog 34 #[.slice a len cap] w fun e w' => e = .returned (.func (.func 59) #[] #[.pointer (some ⟨w.heap.size, 0, none⟩)]) ∧ w' = w.alloc (.cells #[.slice a len cap] 24) := by
  refine callsIn_of_wp Tryz.func34 rfl hF ?_ hro
  simp only [Tryz.ntmps34, List.size_toArray, List.length_cons, List.length_nil, Nat.reduceAdd, Nat.reduceSub, Array.replicate_succ, Array.replicate_zero, List.push_toArray, List.append_toArray, List.nil_append, List.cons_append]
  gi_wp2
  go_ret
  exact ⟨rfl, rfl⟩
theorem back_stops (F : Fence) (n : Nat) (hF : F.fn 59) (hro : F.round = none) (hn : 1 ≤ n) (Bs n₀ cap : Nat) (p : Option Addr) (ks : List KC) (hm : ks.length ≤ 4611686018427387904) (hm' : ks.length ≤ maxLen) (hs : ∀ k ∈ ks, k.name.size ≤ maxLen)
    (w : World) (hBs : Bs < w.heap.size) (hn₀ : n₀ ≤ w.heap.size) (hc : w.cell? ⟨Bs, 0, none⟩ = some (.slice p ks.length cap)) (hK : KindsAt w p ks) (hb : ∀ a, p = some a → 0 < ks.length → a.block < n₀) :
    SeqStopsK F n Tryz.prog 59 #[.pointer (some ⟨Bs, 0, none⟩)] kEnc (KpB n₀ Bs) (fun ys => ys = upto (kx ks hm' hs) ks.length) (fun pre => ∃ k, k ≤ ks.length ∧ pre = upto (kx ks hm' hs) k) ks.length w := fun l J Jx W hW _ _ hY h0 => by
  have hc' := (hW.cell (p := ⟨Bs, 0, none⟩) hBs).trans hc
  by_cases h1 : 0 < ks.length
  · obtain ⟨b, o, rfl, hcs⟩ := hK.below hW h1
    exact back_in F n hF hro hn l Bs n₀ b o cap ks hm hm' hs (hb _ rfl h1) J Jx hY W hc' hcs h0
  · have h2 : ks = [] := List.eq_nil_of_length_eq_zero (by omega)
    subst h2
    exact (back_nil_in F n hF hro l Bs cap p J W hc' h0).mono fun e W' ⟨he, hj⟩ => ⟨he, .inl ⟨_, rfl, hj⟩⟩
end Go.Proofs.YtbkjminjkjnkpaaGreatDoor
