/- The library's ContainsFunc over events; match.Off. -/
import Derived.Test.YtggmiiifpocfdaaMtFit
namespace Go.Proofs.Ytggmiiifpocfdaa
open Go.RowKit Go.Lib Go.Shelf

def IdxEnds (es : List Ev) (p : Ev → Bool) (w : World) (e : Ending) (w' : World) : Prop := (∃ n : Int, e = .returned (.int .i64 n) ∧ decide (0 ≤ n) = es.any p) ∧ Below w.heap.size w w'
theorem take_any (es : List Ev) (p : Ev → Bool) (k : Nat) (x : Ev) (h : es[k]? = some x) (h0 : (es.take k).any p = false) (hx : p x = false) : (es.take (k + 1)).any p = false := by
  rw [List.take_add_one, h, List.any_append, h0]
  simp [hx]
set_option maxHeartbeats 2000000 in
theorem index_any (q : Option Addr) (c : Nat) (es : List Ev) (v : Value) (p : Ev → Bool) (w : World) (h : RowIn w 4 32 EvIn (.slice q es.length c) es) (hv : FitF w v p) (hw : ∀ x ∈ es, x.2.2.2 ≤ 255) :
    Calls Try.prog 17 #[.slice q es.length c, v] w (IdxEnds es p w) := by
  obtain ⟨g, lb, rfl, eg, hf⟩ := hv
  obtain ⟨q', c', hq, hm, -, hx⟩ := h
  simp only [Value.slice.injEq] at hq
  obtain ⟨rfl, -, rfl⟩ := hq
  unfold maxLen at hm
  have HF := Lib.hid hf
  have HX := Lib.hid hx
  have HW := Lib.hid hw
  clear hf hx hw
  obtain ⟨n, hn⟩ : ∃ n, es.length = n := ⟨_, rfl⟩
  rw [hn] at hm ⊢
  have HN := Lib.hid hn
  clear hn
  go_enter Try.func17, Try.ntmps17
  go_wp2
  go_loopw [5, 8] (fun _ vi wr => ∃ k : Nat, vi = .int .i64 k ∧ k ≤ n ∧ Below w.heap.size w wr ∧ Hid ((es.take k).any p = false)) (fun _ vi _ => n - (RowKit.intOf vi).toNat)
  case atStart => exact ⟨0, by rfl, by omega, Below.refl _ _, Lib.hid (by simp)⟩
  case round =>
    obtain ⟨k, rfl, hk, hb, hA⟩ := hrel
    by_cases hlt : k < n
    · obtain ⟨x, hxk⟩ : ∃ x, es[k]? = some x := ⟨es[k]'(by have := HN.out; omega), List.getElem?_eq_getElem _⟩
      obtain ⟨b, o, rfl, cs, -, hcs, hc⟩ := HX.out k x hxk
      have hxw := HW.out x (List.mem_of_getElem? hxk)
      obtain rfl : cs = evV x := hcs
      have HXK := Lib.hid hxk
      clear hxk
      obtain ⟨xe, xm, xp, xw⟩ := x
      have c0 := hc 0 _ rfl
      have c1 := hc 1 _ rfl
      have c2 := hc 2 _ rfl
      have c3 := hc 3 _ rfl
      have hl := World.block_lt_of_cell? _ _ c0
      have d0 := below_cell' hb c0 hl
      have d1 := below_cell' hb c1 hl
      have d2 := below_cell' hb c2 hl
      have d3 := below_cell' hb c3 hl
      simp only [Nat.add_zero] at d0
      clear hc c0 c1 c2 c3
      have i0 : (0 : Int) ≤ (k : Int) := by omega
      have i1 : (k : Int) < (n : Int) := by omega
      have HB := Lib.hid hb
      clear hb
      cases hp : p (xe, xm, xp, xw) with
      | true =>
        have HP := Lib.hid hp
        clear hp
        go_wp2_with (go_at_fn g; refine (HF.out _ HB.out (xe, xm, xp, xw) hxw).mono ?_; rintro e w' ⟨rfl, b'⟩; rw [HP.out])
        go_ret
        exact ⟨⟨k, rfl, by rw [List.any_eq_true.2 ⟨_, List.mem_of_getElem? HXK.out, HP.out⟩]; simp⟩, HB.out.trans (b'.mono HB.out.size)⟩
      | false =>
        have HP := Lib.hid hp
        clear hp
        go_wp2_with (go_at_fn g; refine (HF.out _ HB.out (xe, xm, xp, xw) hxw).mono ?_; rintro e w' ⟨rfl, b'⟩; rw [HP.out])
        go_roundw
        case rel => exact ⟨k + 1, by go_num, by omega, HB.out.trans (b'.mono HB.out.size), Lib.hid (take_any es p k _ HXK.out hA.out HP.out)⟩
        case measure => simp [RowKit.intOf]; omega
    · obtain rfl : k = n := by omega
      go_wp2
      go_ret
      refine ⟨⟨-1, rfl, ?_⟩, hb⟩
      have := hA.out
      rw [List.take_of_length_le (by rw [HN.out]; exact Nat.le_refl _)] at this
      rw [this]
      rfl
theorem contains_any (q : Option Addr) (c : Nat) (es : List Ev) (v : Value) (p : Ev → Bool) (w : World) (h : RowIn w 4 32 EvIn (.slice q es.length c) es) (hv : FitF w v p) (hw : ∀ x ∈ es, x.2.2.2 ≤ 255) :
    Calls Try.prog 13 #[.slice q es.length c, v] w fun e w' => e = .returned (.bool (es.any p)) ∧ Below w.heap.size w w' := by
  have hi := index_any q c es v p w h hv hw
  obtain ⟨n, hn⟩ : ∃ n, es.length = n := ⟨_, rfl⟩
  rw [hn] at hi ⊢
  clear hn h hw hv
  go_enter Try.func13, Try.ntmps13
  go_wp2_with (go_at_call 17; refine hi.mono ?_; rintro e w' ⟨⟨n', rfl, h1⟩, b'⟩; have H1 := Lib.hid h1; clear h1)
  go_ret
  exact ⟨ret_bool H1.out, b'⟩

/-- An effect, but for what its lists hold. -/
structure Fx where
  mode : Int
  ev : Int
  side : Int
  qc : Option Addr
  nc : Nat
  cc : Nat
  pay : Int
  disc : Int
  trib : Bool
  pick : Int
  ss : Int
  sz : Int
  sk : Int
  qs : Option Addr
  ns : Nat
  cs : Nat
def Fx.row (f : Fx) : Array Value := #[.int .u8 f.mode, .int .u8 f.ev, .int .u8 f.side, .slice f.qc f.nc f.cc, .int .i64 f.pay, .int .i64 f.disc, .bool f.trib, .int .i64 f.pick, .int .u8 f.ss, .int .u8 f.sz, .int .u8 f.sk, .slice f.qs f.ns f.cs]

set_option maxHeartbeats 2000000 in
theorem off1_any (b1 b2 : Nat) (m : Int) (v : Value) (p : Ev → Bool) (x : Ev) (w : World) (h1 : w.cell? ⟨b1, 6, none⟩ = some (.int .i64 m)) (h2 : w.cell? ⟨b2, 0, none⟩ = some v) (ha : FitF w v p) (hx : x.2.2.2 ≤ 255) :
    Calls Try.prog 14 #[.agg (evV x).toArray, .pointer (some ⟨b1, 0, none⟩), .pointer (some ⟨b2, 0, none⟩)] w fun e w' => e = .returned (.bool (x.2.1 == m && p x)) ∧ Below w.heap.size w w' := by
  obtain ⟨xe, xm, xp, xw⟩ := x
  obtain ⟨g, lb, rfl, eg, hf⟩ := ha
  dsimp only at hx
  have hF := Lib.hid fun (W : World) (hb : Below w.heap.size w W) => hf W hb (xe, xm, xp, xw) hx
  have l1 := World.block_lt_of_cell? _ _ h1
  have l2 := World.block_lt_of_cell? _ _ h2
  clear hf
  simp only [evV] at hF ⊢
  by_cases e0 : xm = m
  · subst e0
    go_enter Try.func14, Try.ntmps14
    go_wp2_with (go_at_fn g; refine (hF.out _ ((Below.refl _ _).alloc (Nat.le_refl _) _)).mono ?_; rintro e w' ⟨rfl, b'⟩)
    go_ret
    exact ⟨ret_bool (by simp), ((Below.refl _ _).alloc (Nat.le_refl _) _).trans (b'.mono (by simp))⟩
  · have e3 : (xm == m) = false := by simpa using e0
    rw [e3]
    clear e0
    go_enter Try.func14, Try.ntmps14
    go_wp2
    go_ret
    exact ⟨rfl, (Below.refl _ _).alloc (Nat.le_refl _) _⟩
theorem entersO : ∀ args W, (callFunc 14 args).run Try.prog W = .ok (.enter 14 args) W := enters_of Try.func14 (by kernel_rfl) rfl

def offB (m who id : Int) (f : Fx) (es : List Ev) : Bool :=
  if f.mode = 3 then es.any (fun x => x.2.1 == m && fitB who id f.ev f.side x) else if f.mode = 4 ∨ f.mode = 5 then es.any (fitB who id f.ev f.side) else false
set_option maxHeartbeats 4000000 in
theorem off_any (t : Tb) (f : Fx) (who id : Int) (q : Option Addr) (c : Nat) (es : List Ev) (w : World) (h : RowIn w 4 32 EvIn (.slice q es.length c) es) (hw : ∀ x ∈ es, x.2.2.2 ≤ 255) (hwho : 0 ≤ who ∧ who ≤ 255) (hs : 0 ≤ f.side ∧ f.side ≤ 255) :
    Calls Try.prog 8 #[.agg t.row, .int .u8 who, .int .i64 id, .agg f.row, .slice q es.length c] w fun e w' => e = .returned (.bool (offB t.mo who id f es)) ∧ Below w.heap.size w w' := by
  obtain ⟨mode, ev, side, qc, nc, cc, pay, disc, trib, pick, ss, sz, sk, qs, ns, cs⟩ := f
  obtain ⟨qk, nk, ck, qp, np, cp, tl0, tl1, tn, py, mo, qe, ne, ce, b0, b1⟩ := t
  dsimp only at hs
  have hfit := Lib.hid fun W => fitting_any who id ev side W hwho hs
  have hcont := Lib.hid fun (W : World) (v : Value) (p : Ev → Bool) (hb : Below w.heap.size w W) (hv : FitF W v p) => contains_any q c es v p W (h.below (fun _ _ _ _ h _ => h) hb) hv hw
  have o3 : mode = 3 → offB mo who id ⟨mode, ev, side, qc, nc, cc, pay, disc, trib, pick, ss, sz, sk, qs, ns, cs⟩ es = es.any (fun x => x.2.1 == mo && fitB who id ev side x) := fun e => if_pos e
  have o45 : mode = 4 ∨ mode = 5 → offB mo who id ⟨mode, ev, side, qc, nc, cc, pay, disc, trib, pick, ss, sz, sk, qs, ns, cs⟩ es = es.any (fitB who id ev side) := fun e => (if_neg (show ¬ mode = 3 by omega)).trans (if_pos e)
  have oN : ¬ mode = 3 → ¬ (mode = 4 ∨ mode = 5) → offB mo who id ⟨mode, ev, side, qc, nc, cc, pay, disc, trib, pick, ss, sz, sk, qs, ns, cs⟩ es = false := fun e e' => (if_neg e).trans (if_neg e')
  obtain ⟨r, hr⟩ : ∃ r, offB mo who id ⟨mode, ev, side, qc, nc, cc, pay, disc, trib, pick, ss, sz, sk, qs, ns, cs⟩ es = r := ⟨_, rfl⟩
  rw [hr] at o3 o45 oN ⊢
  obtain ⟨n, hn⟩ : ∃ n, es.length = n := ⟨_, rfl⟩
  rw [hn] at hcont ⊢
  clear h hw hs hwho hr hn
  have O3 := Lib.hid o3
  have O4 := Lib.hid o45
  have ON := Lib.hid oN
  clear o3 o45 oN
  simp only [Tb.row, Fx.row]
  obtain ⟨w0, hw0⟩ : ∃ w0, w0 = (w.alloc (.cells #[.slice qk nk ck, .slice qp np cp, .int .i64 tl0, .int .i64 tl1, .int .i64 tn, .int .u8 py, .int .i64 mo, .slice qe ne ce, .bool b0, .bool b1] 28)).alloc (.cells #[.int .u8 mode, .int .u8 ev, .int .u8 side, .slice qc nc cc, .int .i64 pay, .int .i64 disc, .bool trib, .int .i64 pick, .int .u8 ss, .int .u8 sz, .int .u8 sk, .slice qs ns cs] 34) := ⟨_, rfl⟩
  have hb0 : Below w.heap.size w w0 := by rw [hw0]; exact ((Below.refl _ _).alloc (Nat.le_refl _) _).alloc (by simp) _
  have t6 : w0.cell? ⟨w.heap.size, 6, none⟩ = some (.int .i64 mo) := by rw [hw0]; exact cell_blk (heap_older (heap_alloc_new _ _))
  have e0 : w0.cell? ⟨w.heap.size + 1, 0, none⟩ = some (.int .u8 mode) := by rw [hw0]; exact cell_blk (heap_newer _ _ _ (by simp))
  have HB0 := Lib.hid hb0
  have HW0 := Lib.hid hw0
  clear hb0 hw0
  go_enter Try.func8, Try.ntmps8
  go_wp2_with fail
  rw [← HW0.out]
  refine (hfit.out w0).mono ?_
  rintro e w1 ⟨⟨v, rfl, hv⟩, b1⟩
  have HV := Lib.hid hv
  obtain ⟨g, lb, rfl, -, -⟩ := hv
  have z1 := b1.size
  have e1 := cell_later b1 e0
  have T1 := Lib.hid (cell_later b1 t6)
  have l1 := World.block_lt_of_cell? _ _ e1
  have l0 := World.block_lt_of_cell? _ _ T1.out
  have HB1 := Lib.hid (HB0.out.trans (b1.mono HB0.out.size))
  clear b1 e0 t6 z1
  obtain ⟨w2, hw2⟩ : ∃ w2, w2 = w1.alloc (.cells #[.func (.func g) #[] lb] 44) := ⟨_, rfl⟩
  have b2 : Below w1.heap.size w1 w2 := by rw [hw2]; exact (Below.refl _ _).alloc (Nat.le_refl _) _
  have V2 := Lib.hid (HV.out.later b2)
  have T2 := Lib.hid (cell_later b2 T1.out)
  have c2 : w2.cell? ⟨w1.heap.size, 0, none⟩ = some (.func (.func g) #[] lb) := by rw [hw2]; exact cell_blk (heap_alloc_new _ _)
  have HB2 := Lib.hid (HB1.out.trans (b2.mono HB1.out.size))
  have HC2 := Lib.hid c2
  have HW2 := Lib.hid hw2
  clear b2 c2 hw2
  have hF3 : FitF w2 (.func (.func 14) #[] #[.pointer (some ⟨w.heap.size, 0, none⟩), .pointer (some ⟨w1.heap.size, 0, none⟩)]) (fun x => x.2.1 == mo && fitB who id ev side x) := by
    refine ⟨_, _, rfl, entersO, fun W hW x hx => ?_⟩
    exact off1_any w.heap.size w1.heap.size mo _ (fitB who id ev side) x W (cell_later hW T2.out) (cell_later hW HC2.out) (V2.out.later hW) hx
  have HF3 := Lib.hid hF3
  clear hF3
  by_cases m3 : mode = 3
  · have H3 := Lib.hid (O3.out m3)
    clear O3 O4 ON
    subst m3
    go_wp2_with fail
    rw [← HW2.out]
    (with_reducible refine (hcont.out w2 _ _ HB2.out HF3.out).mono ?_)
    rintro e w3 ⟨rfl, b3⟩
    go_wp2_with fail
    go_ret
    exact ⟨ret_bool H3.out.symm, HB2.out.trans (b3.mono HB2.out.size)⟩
  · by_cases m45 : mode = 4 ∨ mode = 5
    · have H4 := Lib.hid (O4.out m45)
      clear O3 O4 ON
      rcases m45 with rfl | rfl
      · go_wp2_with fail
        rw [← HW2.out]
        (with_reducible refine (hcont.out w2 _ (fitB who id ev side) HB2.out V2.out).mono ?_)
        rintro e w3 ⟨rfl, b3⟩
        go_wp2_with fail
        go_ret
        exact ⟨ret_bool H4.out.symm, HB2.out.trans (b3.mono HB2.out.size)⟩

      · go_wp2_with fail
        rw [← HW2.out]
        (with_reducible refine (hcont.out w2 _ (fitB who id ev side) HB2.out V2.out).mono ?_)
        rintro e w3 ⟨rfl, b3⟩
        go_wp2_with fail
        go_ret
        exact ⟨ret_bool H4.out.symm, HB2.out.trans (b3.mono HB2.out.size)⟩
    · have n3 : (mode == 3) = false := by simpa using m3
      have n4 : (mode == 4) = false := by simpa using fun h => m45 (.inl h)
      have n5 : (mode == 5) = false := by simpa using fun h => m45 (.inr h)
      have HN := Lib.hid (ON.out m3 m45)
      clear m3 m45
      go_wp2_with fail
      go_ret
      rw [← HW2.out]
      exact ⟨ret_bool HN.out.symm, HB2.out⟩
end Go.Proofs.Ytggmiiifpocfdaa
