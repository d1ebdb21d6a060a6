/- joustref00.Tokens, joustref00.Spots: lists of tokens that are alike are told so. -/
import Derived.Test.YtdpahcnenjnbhaaDoorMem
import Derived.Deep.QuietTactic
import Derived.BigQuiet
namespace Go.Proofs.YtdpahcnenjnbhaaDoor
open Go.RowKit Go.Lib

/-- A slice of tokens, in memory. -/
def HasToks (w : World) (v : Value) (ts : List Tok) : Prop := ∃ base, w.ownsRow base 37 4 v ts.length (toksCells ts)
theorem HasToks.later {w w' : World} {v : Value} {ts : List Tok} (h : HasToks w v ts) (hb : Below w.heap.size w w') : HasToks w' v ts := h.imp fun _ h => ownsRow_later h hb

theorem flat4 (ts : List Tok) : ∀ (k j : Nat) (t : Tok), ts[k]? = some t → j < 4 → (toksCells ts)[k * 4 + j]? = t.cells[j]? := by
  induction ts with
  | nil => intro k j t h; simp at h
  | cons x l ih =>
    intro k j t h hj
    have e : toksCells (x :: l) = x.cells ++ toksCells l := by simp [toksCells]
    have hx : x.cells.length = 4 := rfl
    rw [e]
    cases k with
    | zero =>
      simp at h
      subst h
      rw [List.getElem?_append_left (by omega)]
      simp
    | succ k =>
      simp at h
      rw [List.getElem?_append_right (by omega), ← ih k j t h hj]
      congr 1
      omega

/-- A slice of tokens is nil and empty, or its cells lie in one block. -/
theorem HasToks.open {w : World} {v : Value} {ts : List Tok} (h : HasToks w v ts) :
    (v = .slice none 0 0 ∧ ts = []) ∨ ∃ g cap, v = .slice (some ⟨g, 0, none⟩) ts.length cap ∧ ts.length ≤ cap ∧ cap ≤ maxLen ∧
      ∀ k t, ts[k]? = some t → w.cell? ⟨g, k * 4, none⟩ = some (.int .u8 t.kind) ∧ w.cell? ⟨g, k * 4 + 1, none⟩ = some (.string t.text) ∧ w.cell? ⟨g, k * 4 + 2, none⟩ = some (.int .i64 t.spot.1) ∧ w.cell? ⟨g, k * 4 + 3, none⟩ = some (.int .i64 t.spot.2) := by
  obtain ⟨base, hl, h⟩ := h
  rcases h with ⟨hv, hn⟩ | ⟨g, cap, cur, hv, _, hh, hc, hm, _, ht⟩
  · exact .inl ⟨hv, List.eq_nil_of_length_eq_zero hn⟩
  · refine .inr ⟨g, cap, hv, hc, hm, fun k t hk => ?_⟩
    have hlt : k < ts.length := (List.getElem?_eq_some_iff.1 hk).1
    have hcell : ∀ j, j < 4 → w.cell? ⟨g, k * 4 + j, none⟩ = t.cells[j]? := fun j hj => by
      rw [cell_blk hh, ← flat4 ts k j t hk hj, ← ht, List.getElem?_take_of_lt (by omega)]
      simp
    exact ⟨hcell 0 (by omega), hcell 1 (by omega), hcell 2 (by omega), hcell 3 (by omega)⟩

set_option maxHeartbeats 2000000 in
set_option maxRecDepth 100000 in
theorem spots_yes (va vb : Value) (ta tb : List Tok) (w : World) (ha : HasToks w va ta) (hb : HasToks w vb tb) (hl : ta.length = tb.length) (hs : ∀ (k : Nat) t u, ta[k]? = some t → tb[k]? = some u → t.spot = u.spot) :
    Calls Tryd.prog 10 #[va, vb] w fun e w' => e = .returned (.bool true) ∧ Below w.heap.size w w' := by
  rcases ha.open with ⟨rfl, rfl⟩ | ⟨ga, ca, rfl, hca, hcm, ha'⟩
  · have htb : tb = [] := List.eq_nil_of_length_eq_zero hl.symm
    subst htb
    rcases hb.open with ⟨rfl, _⟩ | ⟨gb, cb, rfl, hcb, hcmb, hb'⟩
    · clear ha hb hl hs
      go_enter Tryd.func10, Tryd.ntmps10
      go_wp2
      refine wp_loop_rounds 1 ?_
      rw [rounds_succ]
      go_wp2
      go_ret
      exact ⟨rfl, Below.refl _ _⟩
    · clear ha hb hl hs hb'
      go_enter Tryd.func10, Tryd.ntmps10
      go_wp2
      refine wp_loop_rounds 1 ?_
      rw [rounds_succ]
      go_wp2
      go_ret
      exact ⟨rfl, Below.refl _ _⟩
  · rcases hb.open with ⟨rfl, rfl⟩ | ⟨gb, cb, rfl, hcb, hcmb, hb'⟩
    · have hta : ta = [] := List.eq_nil_of_length_eq_zero hl
      subst hta
      clear ha hb hl hs ha'
      go_enter Tryd.func10, Tryd.ntmps10
      go_wp2
      refine wp_loop_rounds 1 ?_
      rw [rounds_succ]
      go_wp2
      go_ret
      exact ⟨rfl, Below.refl _ _⟩
    · rw [← hl] at hcb ⊢
      unfold maxLen at hcm
      have HS := Lib.hid hs
      have HA := Lib.hid ha'
      have HB := Lib.hid hb'
      have HL := Lib.hid hl
      clear hs ha' hb' ha hb hl
      generalize hn : ta.length = n at *
      have HNn := Lib.hid hn
      clear hn
      have q0 : ((n : Int) == (n : Int)) = true := by simp
      go_enter Tryd.func10, Tryd.ntmps10
      go_wp2
      go_loopw [5, 6] (fun vs vi wr => ∃ k : Nat, vs = .bool true ∧ vi = .int .i64 k ∧ k ≤ n ∧ Below w.heap.size w wr) (fun _ vi _ => n - (RowKit.intOf vi).toNat)
      case atStart => exact ⟨0, by rfl, rfl, by omega, Below.refl _ _⟩
      case round =>
        obtain ⟨k, rfl, rfl, hk, hbw⟩ := hrel
        by_cases hlt : k < n
        · obtain ⟨t, ht⟩ : ∃ t, ta[k]? = some t := ⟨ta[k]'(by have := HNn.out; omega), List.getElem?_eq_getElem _⟩
          obtain ⟨u, hu⟩ : ∃ u, tb[k]? = some u := ⟨tb[k]'(by have := HNn.out; have := HL.out; omega), List.getElem?_eq_getElem _⟩
          obtain ⟨_, _, a2, a3⟩ := HA.out k t ht
          obtain ⟨_, _, b2, b3⟩ := HB.out k u hu
          have e := HS.out k t u ht hu
          rw [← e] at b2 b3
          have a2' := cell_later hbw a2
          have a3' := cell_later hbw a3
          have b2' := cell_later hbw b2
          have b3' := cell_later hbw b3
          generalize t.spot = sp at *
          obtain ⟨x, y⟩ := sp
          clear a2 a3 b2 b3 e ht hu
          have i1 : (k : Int) < (n : Int) := by omega
          have i0 : (0 : Int) ≤ (k : Int) := by omega
          go_wp2_with fail
          go_quiet (fail)
          go_wp2
          go_roundw
          case rel => exact ⟨k + 1, by rfl, by go_num, by omega, below_drewN hbw _⟩
          case measure => simp [RowKit.intOf]; omega
        · go_wp2
          go_ret
          exact ⟨rfl, hbw⟩

set_option maxHeartbeats 2000000 in
set_option maxRecDepth 100000 in
theorem toks_yes (va vb : Value) (ta tb : List Tok) (w : World) (ha : HasToks w va ta) (hb : HasToks w vb tb) (hl : ta.length = tb.length) (hs : ∀ (k : Nat) t u, ta[k]? = some t → tb[k]? = some u → t.kind = u.kind ∧ t.text = u.text) :
    Calls Tryd.prog 9 #[va, vb] w fun e w' => e = .returned (.bool true) ∧ Below w.heap.size w w' := by
  rcases ha.open with ⟨rfl, rfl⟩ | ⟨ga, ca, rfl, hca, hcm, ha'⟩
  · have htb : tb = [] := List.eq_nil_of_length_eq_zero hl.symm
    subst htb
    rcases hb.open with ⟨rfl, _⟩ | ⟨gb, cb, rfl, hcb, hcmb, hb'⟩
    · clear ha hb hl hs
      go_enter Tryd.func9, Tryd.ntmps9
      go_wp2
      refine wp_loop_rounds 1 ?_
      rw [rounds_succ]
      go_wp2
      go_ret
      exact ⟨rfl, Below.refl _ _⟩
    · clear ha hb hl hs hb'
      go_enter Tryd.func9, Tryd.ntmps9
      go_wp2
      refine wp_loop_rounds 1 ?_
      rw [rounds_succ]
      go_wp2
      go_ret
      exact ⟨rfl, Below.refl _ _⟩
  · rcases hb.open with ⟨rfl, rfl⟩ | ⟨gb, cb, rfl, hcb, hcmb, hb'⟩
    · have hta : ta = [] := List.eq_nil_of_length_eq_zero hl
      subst hta
      clear ha hb hl hs ha'
      go_enter Tryd.func9, Tryd.ntmps9
      go_wp2
      refine wp_loop_rounds 1 ?_
      rw [rounds_succ]
      go_wp2
      go_ret
      exact ⟨rfl, Below.refl _ _⟩
    · rw [← hl] at hcb ⊢
      unfold maxLen at hcm
      have HS := Lib.hid hs
      have HA := Lib.hid ha'
      have HB := Lib.hid hb'
      have HL := Lib.hid hl
      clear hs ha' hb' ha hb hl
      generalize hn : ta.length = n at *
      have HNn := Lib.hid hn
      clear hn
      have q0 : ((n : Int) == (n : Int)) = true := by simp
      go_enter Tryd.func9, Tryd.ntmps9
      go_wp2
      go_loopw [5, 6] (fun vs vi wr => ∃ k : Nat, vs = .bool true ∧ vi = .int .i64 k ∧ k ≤ n ∧ Below w.heap.size w wr) (fun _ vi _ => n - (RowKit.intOf vi).toNat)
      case atStart => exact ⟨0, by rfl, rfl, by omega, Below.refl _ _⟩
      case round =>
        obtain ⟨k, rfl, rfl, hk, hbw⟩ := hrel
        by_cases hlt : k < n
        · obtain ⟨t, ht⟩ : ∃ t, ta[k]? = some t := ⟨ta[k]'(by have := HNn.out; omega), List.getElem?_eq_getElem _⟩
          obtain ⟨u, hu⟩ : ∃ u, tb[k]? = some u := ⟨tb[k]'(by have := HNn.out; have := HL.out; omega), List.getElem?_eq_getElem _⟩
          obtain ⟨a0, a1, _, _⟩ := HA.out k t ht
          obtain ⟨b0, b1, _, _⟩ := HB.out k u hu
          obtain ⟨e, e2⟩ := HS.out k t u ht hu
          rw [← e] at b0
          rw [← e2] at b1
          have a0' := cell_later hbw a0
          have a1' := cell_later hbw a1
          have b0' := cell_later hbw b0
          have b1' := cell_later hbw b1
          generalize t.kind = x at *
          generalize t.text = y at *
          have g1 : ((x : Int) == (x : Int)) = true := by simp
          clear a0 a1 b0 b1 e e2 ht hu
          have i1 : (k : Int) < (n : Int) := by omega
          have i0 : (0 : Int) ≤ (k : Int) := by omega
          go_wp2_with fail
          go_quiet (fail)
          go_wp2
          go_roundw
          case rel => exact ⟨k + 1, by rfl, by go_num, by omega, below_drewN hbw _⟩
          case measure => simp [RowKit.intOf]; omega
        · go_wp2
          go_ret
          exact ⟨rfl, hbw⟩

end Go.Proofs.YtdpahcnenjnbhaaDoor
