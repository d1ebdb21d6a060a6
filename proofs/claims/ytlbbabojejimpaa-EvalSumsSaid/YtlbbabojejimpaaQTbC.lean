import Derived.Test.YtlbbabojejimpaaQTbUnbroken
import Derived.Test.YtlbbabojejimpaaQTbB
import Derived.Deep.RegionHeld3
import Derived.RegionTactic
import Derived.BigRegion
import Derived.Test.YtlbbabojejimpaaQTbPlaces
/- board: placesMay says yes of pieces that may be. -/
namespace Go.Proofs.Ytlbbabojejimpaa
open Go.RowKit Go.Lib

/-- Whose places a piece is counted among: those of Limbo are one's. -/
def keyH (p : Pc) : Nat := if p.zn = 6 then 0 else p.hs
def atP (h z a : Nat) (p : Pc) : Bool := keyH p == h && p.zn == z && p.pl == (a : Int)
def atZ (h z : Nat) (p : Pc) : Bool := keyH p == h && p.zn == z
def zeroRow : List Value := List.replicate 144 (.bool false) ++ [.int .i64 0]
def zeroSeats : Array Value := (List.replicate 14 zeroRow).flatten.toArray
theorem zero_seats (w : World) : Sem.run Try.prog (zeroValue 77) w = .ok (.agg zeroSeats) w := by kernel_rfl
theorem zeroSeats_size : zeroSeats.size = 2030 := by kernel_rfl
theorem zeroSeats_get (r j : Nat) (hr : r < 14) (hj : j < 145) : zeroSeats[r * 145 + j]? = zeroRow[j]? := by
  have h := flat_get (size := 145) (List.replicate 14 zeroRow) (fun c hc => by rw [(List.mem_replicate.1 hc).2]; rfl) r j zeroRow (by rw [List.getElem?_replicate, if_pos hr]) hj
  rw [← h]
  unfold zeroSeats
  rw [List.getElem?_toArray]
theorem zeroRow_at (a : Nat) (h : a < 144) : zeroRow[a]? = some (.bool false) := by
  unfold zeroRow
  rw [List.getElem?_append_left (by simp; exact h), List.getElem?_replicate, if_pos h]
theorem zeroRow_count : zeroRow[144]? = some (.int .i64 0) := by
  unfold zeroRow
  rw [List.getElem?_append_right (by simp)]
  simp

/-- The places that are taken by some pieces. -/
structure Taken (w : World) (G : Nat) (l : List Pc) : Prop where
  blk : ∃ cs, w.heap[G]? = some (.cells cs 77 (0, 0)) ∧ cs.size = 2030 ∧
    (∀ h z a, h < 2 → z < 7 → a < 144 → cs[(h * 7 + z) * 145 + a]? = some (.bool (l.any (atP h z a)))) ∧
    (∀ h z, h < 2 → z < 7 → cs[(h * 7 + z) * 145 + 144]? = some (.int .i64 (l.countP (atZ h z) : Nat)))
theorem Taken.keep {w w' : World} {G : Nat} {l : List Pc} (h : Taken w G l) (he : w'.heap[G]? = w.heap[G]?) : Taken w' G l := by
  obtain ⟨cs, hc, r⟩ := h.blk
  exact ⟨cs, he.trans hc, r⟩
theorem Taken.lt {w : World} {G : Nat} {l : List Pc} (h : Taken w G l) : G < w.heap.size := by
  obtain ⟨cs, hc, r⟩ := h.blk
  exact heap_lt hc
theorem Taken.cells {w : World} {G : Nat} {l : List Pc} (t : Taken w G l) {h z a : Nat} (hh : h < 2) (hz : z < 7) (ha : a < 144) :
    w.cell? ⟨G, (h * 7 + z) * 145 + a, none⟩ = some (.bool (l.any (atP h z a))) ∧ w.cell? ⟨G, (h * 7 + z) * 145 + 144, none⟩ = some (.int .i64 (l.countP (atZ h z) : Nat)) ∧ w.frozen? ⟨G, (h * 7 + z) * 145 + a, none⟩ = false ∧ w.frozen? ⟨G, (h * 7 + z) * 145 + 144, none⟩ = false := by
  obtain ⟨cs, hc, hs, h1, h2⟩ := t.blk
  exact ⟨by rw [cell_blk hc]; exact h1 h z a hh hz ha, by rw [cell_blk hc]; exact h2 h z hh hz, free_blk hc, free_blk hc⟩
theorem Taken.zero {w : World} {G : Nat} (h : w.heap[G]? = some (.cells zeroSeats 77 (0, 0))) : Taken w G [] := by
  refine ⟨zeroSeats, h, zeroSeats_size, fun h z a hh hz ha => ?_, fun h z hh hz => ?_⟩
  · rw [zeroSeats_get _ _ (by omega) (by omega), zeroRow_at a ha]; rfl
  · rw [zeroSeats_get _ _ (by omega) (by omega), zeroRow_count]; rfl
theorem lin_inj {h z h' z' a a' : Nat} (hz : z < 7) (hz' : z' < 7) (ha : a < 145) (ha' : a' < 145) (e : (h * 7 + z) * 145 + a = (h' * 7 + z') * 145 + a') : h = h' ∧ z = z' ∧ a = a' := by
  have h1 : a = a' := by
    have e1 : ((h * 7 + z) * 145 + a) % 145 = a := by rw [Nat.mul_comm, Nat.mul_add_mod]; exact Nat.mod_eq_of_lt ha
    have e2 : ((h' * 7 + z') * 145 + a') % 145 = a' := by rw [Nat.mul_comm, Nat.mul_add_mod]; exact Nat.mod_eq_of_lt ha'
    omega
  omega
/-- One more place is taken. -/
theorem Taken.snoc {w : World} {G : Nat} {l : List Pc} {p : Pc} {a : Nat} (t : Taken w G l) (hk : keyH p < 2) (hz : p.zn < 7) (hp : p.pl = (a : Int)) (ha : a < 144) :
    Taken ((w.setCell ⟨G, (keyH p * 7 + p.zn) * 145 + a, none⟩ (.bool true)).setCell ⟨G, (keyH p * 7 + p.zn) * 145 + 144, none⟩ (.int .i64 (l.countP (atZ (keyH p) p.zn) + 1 : Nat))) G (l ++ [p]) := by
  obtain ⟨cs, hc, hs, h1, h2⟩ := t.blk
  refine ⟨_, heap_set (heap_set hc _) _, by simp [hs], fun h z b hh hz' hb => ?_, fun h z hh hz' => ?_⟩
  · rw [Array.getElem?_setIfInBounds_ne (by intro e; have := lin_inj hz hz' (by omega) (by omega) e; omega)]
    rw [List.any_append]
    by_cases e : (keyH p * 7 + p.zn) * 145 + a = (h * 7 + z) * 145 + b
    · have e3 := lin_inj hz hz' (by omega) (by omega) e
      rw [e, Array.getElem?_setIfInBounds_self_of_lt (by rw [hs]; omega)]
      have : atP h z b p = true := by simp [atP, hp, e3.1, e3.2.1, e3.2.2]
      simp [this]
    · rw [Array.getElem?_setIfInBounds_ne e, h1 h z b hh hz' hb]
      have : atP h z b p = false := by
        by_cases hx : keyH p = h ∧ p.zn = z ∧ a = b
        · exact absurd (by rw [hx.1, hx.2.1, hx.2.2]) e
        · simp only [atP, hp, Bool.and_eq_false_iff, beq_eq_false_iff_ne]
          omega
      simp [this]
  · rw [List.countP_append]
    by_cases e : (keyH p * 7 + p.zn) * 145 + 144 = (h * 7 + z) * 145 + 144
    · have e3 := lin_inj hz hz' (by omega) (by omega) e
      rw [e, Array.getElem?_setIfInBounds_self_of_lt (by simp [hs]; omega)]
      have : atZ h z p = true := by simp [atZ, e3.1, e3.2.1]
      simp [this, e3.1, e3.2.1]
    · rw [Array.getElem?_setIfInBounds_ne e, Array.getElem?_setIfInBounds_ne (by intro e'; have := lin_inj hz hz' (by omega) (by omega) e'; omega), h2 h z hh hz']
      have : atZ h z p = false := by
        by_cases hx : keyH p = h ∧ p.zn = z
        · exact absurd (by rw [hx.1, hx.2]) e
        · simp only [atZ, Bool.and_eq_false_iff, beq_eq_false_iff_ne]
          omega
      simp [this]
end Go.Proofs.Ytlbbabojejimpaa

/- board: placesMay says yes of pieces that may be: the walk. -/
namespace Go.Proofs.Ytlbbabojejimpaa
open Go.RowKit Go.Lib

theorem take_more {α : Type} {xs : List α} {i : Nat} {x : α} (h : xs[i]? = some x) : xs.take (i + 1) = xs.take i ++ [x] := by rw [List.take_add_one, h]; rfl
theorem count_take {f : Pc → Bool} {ps : List Pc} {k : Nat} {p : Pc} (hp : ps[k]? = some p) (hf : f p = true) : (ps.take k).countP f + 1 ≤ ps.countP f := by
  have h1 := count_next f hp
  rw [hf] at h1
  have h2 : (ps.take (k + 1)).countP f ≤ ps.countP f := (List.take_sublist _ _).countP_le
  simp at h1
  omega
/-- The place of a piece that may be, as it comes up. -/
theorem GoodB.seat {xs : List Cd} {ps : List Pc} (h : GoodB xs ps) {k : Nat} {p : Pc} (hp : ps[k]? = some p) (h7 : p.zn ≠ 7) :
    ∃ a : Nat, p.pl = (a : Int) ∧ a < roomN p.zn ∧ keyH p < 2 ∧ p.zn < 7 ∧ (ps.take k).any (atP (keyH p) p.zn a) = false := by
  have hm := List.mem_of_getElem? hp
  have ho := h.one p hm
  have hz := ho.zn
  by_cases h6 : p.zn = 6
  · have hl := ho.nul (.inl h6)
    have hk : keyH p = 0 := if_pos h6
    refine ⟨0, by rw [hl]; rfl, by rw [h6]; decide, by omega, by omega, ?_⟩
    have h1 := count_take (f := fun p => p.zn == 6) hp (by simp [h6])
    have h2 := h.limbo
    rw [List.any_eq_false]
    intro q hq hc
    have h3 : 0 < (ps.take k).countP (fun p => p.zn == 6) := List.countP_pos_iff.2 ⟨q, hq, by
      simp only [atP, Bool.and_eq_true, beq_iff_eq] at hc
      simp [hc.1.2, h6]⟩
    omega
  · have hk : keyH p = p.hs := if_neg h6
    have hpl : 0 ≤ p.pl ∧ p.pl < roomN p.zn := by
      by_cases hs : sharedB p.zn = true
      · have hz3 : p.zn = 2 ∨ p.zn = 3 := by
          rcases eight hz with e | e | e | e | e | e | e | e <;> rw [e] at hs ⊢ <;> first | (simp [sharedB] at hs; done) | omega
        have := ho.row hz3
        have hr : roomN p.zn = 5 := if_pos hz3
        rw [hr]; omega
      · have := h.pile p hm h6 h7 (by simpa using hs)
        have h3 : ps.countP (inZ p.hs p.zn) ≤ ps.length := List.countP_le_length
        have h4 := h.few
        have hr : roomN p.zn = 144 := by
          rcases eight hz with e | e | e | e | e | e | e | e <;> rw [e] at hs ⊢ <;> first | rfl | (simp [sharedB] at hs; done) | omega
        rw [hr]; omega
    obtain ⟨a, ha⟩ : ∃ a : Nat, p.pl = a := ⟨p.pl.toNat, by omega⟩
    refine ⟨a, ha, by omega, by rw [hk]; have := ho.hs; omega, by omega, ?_⟩
    have h1 := count_take (f := inP p.hs p.zn p.pl) hp (by simp [inP, inZ])
    have h2 := h.uniq p hm h6 h7
    rw [List.any_eq_false]
    intro q hq hc
    have h3 : 0 < (ps.take k).countP (inP p.hs p.zn p.pl) := List.countP_pos_iff.2 ⟨q, hq, by
      simp only [atP, Bool.and_eq_true, beq_iff_eq] at hc
      have hq6 : keyH q = q.hs := if_neg (by rw [hc.1.2]; exact h6)
      rw [hq6, hk] at hc
      simp [inP, inZ, hc.1.2, hc.1.1, hc.2, ha]⟩
    omega
theorem GoodB.zones {xs : List Cd} {ps : List Pc} (h : GoodB xs ps) {w : World} {G : Nat} (t : Taken w G ps) {q : Nat} (hq : q < 2) : ZonesOk w G (q * 1015) (fun z => ps.countP (atZ q z)) := by
  have hlen : ∀ z, ps.countP (atZ q z) ≤ 144 := fun z => Nat.le_trans List.countP_le_length h.few
  have hoff : ∀ z a, q * 1015 + z * 145 + a = (q * 7 + z) * 145 + a := fun z a => by omega
  refine ⟨fun z _ => hlen z, fun z hz => ?_, fun z hz hp a ha => ?_⟩
  · rw [hoff]
    exact (t.cells (a := 0) hq hz (by omega)).2.1
  · have ha' : a < 144 := Nat.lt_of_lt_of_le ha (hlen z)
    rw [hoff, (t.cells hq hz ha').1]
    have h6 : z ≠ 6 := by rintro rfl; simp [pileB] at hp
    have hs : sharedB z = false := by
      rcases eight (z := z) (by omega) with rfl | rfl | rfl | rfl | rfl | rfl | rfl | rfl <;> first | rfl | (simp [pileB] at hp)
    have he : ps.countP (atZ q z) = ps.countP (inZ q z) := by
      congr 1
      funext p
      by_cases hz' : p.zn = z
      · have hk : keyH p = p.hs := if_neg (by rw [hz']; exact h6)
        simp [atZ, inZ, hk, Bool.and_comm]
      · have : (p.zn == z) = false := by simpa using hz'
        simp [atZ, inZ, this]
    simp only [he] at ha
    obtain ⟨p, hm, h1, h2, h3⟩ := h.full h6 (by omega) hs ha
    have : ps.any (atP q z a) = true := by
      rw [List.any_eq_true]
      refine ⟨p, hm, ?_⟩
      have hk : keyH p = p.hs := if_neg (by rw [h2]; exact h6)
      simp [atP, hk, h1, h2, h3]
    rw [this]

theorem Taken.skip {w : World} {G : Nat} {l : List Pc} {p : Pc} (t : Taken w G l) (hz : p.zn = 7) : Taken w G (l ++ [p]) := by
  obtain ⟨cs, hc, hs, h1, h2⟩ := t.blk
  refine ⟨cs, hc, hs, fun h z a hh hz' ha => ?_, fun h z hh hz' => ?_⟩
  · have : atP h z a p = false := by
      have : (p.zn == z) = false := by simp; omega
      simp [atP, this]
    rw [List.any_append, h1 h z a hh hz' ha]
    simp [this]
  · have : atZ h z p = false := by
      have : (p.zn == z) = false := by simp; omega
      simp [atZ, this]
    rw [List.countP_append, h2 h z hh hz']
    simp [this]
/-- What take does for a piece that comes up. -/
theorem take_seat {w : World} {G : Nat} {l : List Pc} {p : Pc} {a : Nat} (t : Taken w G l) (ha : p.pl = (a : Int)) (har : a < roomN p.zn) (hk : keyH p < 2) (hz : p.zn < 7) (hf : l.any (atP (keyH p) p.zn a) = false) (hl : l.length ≤ 144) :
    Calls Try.prog 32 #[.pointer (some ⟨G, keyH p * 1015 + p.zn * 145, none⟩), .int .i64 a, .int .i64 (roomN p.zn)] w fun e w' => e = .returned (.bool true) ∧ Taken w' G (l ++ [p]) ∧ Kept G w w' := by
  have hroom : roomN p.zn ≤ 144 := by unfold roomN; split <;> (try split) <;> omega
  have e1 : ∀ b, keyH p * 1015 + p.zn * 145 + b = (keyH p * 7 + p.zn) * 145 + b := fun b => by omega
  have hc := t.cells hk hz (a := a) (by omega)
  rw [hf] at hc
  have hn : l.countP (atZ (keyH p) p.zn) ≤ l.length := List.countP_le_length
  refine (btake_yes G (keyH p * 1015 + p.zn * 145) a (roomN p.zn) _ w har (by rw [e1]; exact hc.1) (by rw [e1]; exact hc.2.1) (by rw [e1]; exact hc.2.2.1) (by rw [e1]; exact hc.2.2.2) hroom (by omega)).mono ?_
  rintro e w' ⟨rfl, rfl⟩
  refine ⟨rfl, by rw [e1, e1]; exact t.snoc hk hz ha (by omega), Kept.setCell (p := ⟨G, _, none⟩) (Kept.setCell (p := ⟨G, _, none⟩) (Kept.refl G w) (.inl rfl) _) (.inl rfl) _⟩

set_option maxHeartbeats 8000000 in
set_option maxRecDepth 100000 in
theorem bplaces_yes (t : Tb) (xs : List Cd) (ps : List Pc) (w : World) (hT : TabIn w t xs ps) (hG : GoodB xs ps) :
    Calls Try.prog 22 #[.slice t.qp t.np t.cp] w fun e w' => e = .returned (.bool true) ∧ Below w.heap.size w w' := by
  have HN := Lib.hid hT.np
  have HT := Lib.hid hT
  have HG := Lib.hid hG
  clear hT hG
  obtain ⟨Z, hZ⟩ : ∃ Z, Z = zeroSeats := ⟨_, rfl⟩
  have hzero : ∀ W : World, Sem.run Try.prog (zeroValue 77) W = .ok (.agg Z) W := fun W => by rw [hZ]; exact zero_seats W
  have HZ := Lib.hid hZ
  clear hZ
  obtain ⟨w0, hw0⟩ : ∃ w0, w0 = w.alloc (.cells Z 77) := ⟨_, rfl⟩
  have hb0 : Below w.heap.size w w0 := by rw [hw0]; exact (Below.refl _ _).alloc (Nat.le_refl _) _
  have ht0 : Taken w0 w.heap.size [] := Taken.zero (by rw [hw0, ← HZ.out]; exact heap_alloc_new _ _)
  have HB0 := Lib.hid hb0
  have HT0 := Lib.hid ht0
  have HW0 := Lib.hid hw0
  clear hb0 ht0 hw0
  go_enter Try.func22, Try.ntmps22
  go_wp2_with fail
  rw [← HW0.out]
  go_loopw [8] (fun vi wr => ∃ k : Nat, vi = .int .i64 k ∧ k ≤ t.np ∧ Taken wr w.heap.size (ps.take k) ∧ Below w.heap.size w wr) (fun vi _ => t.np - (RowKit.intOf vi).toNat)
  case atStart => exact ⟨0, by rfl, by omega, by rw [List.take_zero]; exact HT0.out, HB0.out⟩
  case round =>
    obtain ⟨k, rfl, hk, htk, hbw⟩ := hrel
    rename World => wA
    have HTK := Lib.hid htk
    have HBW := Lib.hid hbw
    have hglt := htk.lt
    clear htk hbw
    have hnp := HN.out.1
    by_cases hlt : k < t.np
    · obtain ⟨p, hp⟩ : ∃ p, ps[k]? = some p := ⟨ps[k]'(by omega), List.getElem?_eq_getElem _⟩
      obtain ⟨g, o, hq, hg, hc⟩ := HT.out.piece hp
      have hfewk : t.np ≤ 144 := by have := HG.out.few; omega
      have i0 : (0 : Int) ≤ (k : Int) := by omega
      have i1 : (k : Int) < (t.np : Int) := by omega
      have hc := fun j u hu => cell_later HBW.out (hc j u hu)
      have c0 := hc 0 _ rfl
      have c1 := hc 1 _ rfl
      have c2 := hc 2 _ rfl
      have c3 := hc 3 _ rfl
      have c4 := hc 4 _ rfl
      have c5 := hc 5 _ rfl
      have c6 := hc 6 _ rfl
      have c7 := hc 7 _ rfl
      have c8 := hc 8 _ rfl
      have c9 := hc 9 _ rfl
      have c10 := hc 10 _ rfl
      have c11 := hc 11 _ rfl
      have c12 := hc 12 _ rfl
      have c13 := hc 13 _ rfl
      simp only [Nat.add_zero] at c0
      have HP := Lib.hid hp
      have htake := Lib.hid (take_more hp)
      clear hc hp hnp
      rw [hq]
      by_cases h7 : p.zn = 7
      · have e7 : ((p.zn : Int) == 7) = true := by simp [h7]
        have hpl := (HG.out.one p (List.mem_of_getElem? HP.out)).nul (.inr h7)
        have el : (p.pl == 0) = true := by simp [hpl]
        have H7 := Lib.hid h7
        clear h7 hpl
        go_wp2_with fail
        go_roundw
        case rel => exact ⟨k + 1, by go_num, by omega, by
          rw [htake.out]
          exact (HTK.out.keep (Below.heap_alloc _ _ _ hglt)).skip H7.out, HBW.out.alloc HBW.out.size _⟩
        case measure => simp [RowKit.intOf]; omega
      · have e7 : ((p.zn : Int) == 7) = false := by simp; omega
        obtain ⟨a, ha, har, hkh, hz7, hfree⟩ := HG.out.seat HP.out h7
        rw [ha] at c6
        have j0 : (0 : Int) ≤ (a : Int) := by omega
        have hzz : (p.zn : Int) < 7 := by omega
        have hz0 : (0 : Int) ≤ (p.zn : Int) := by omega
        by_cases h6 : p.zn = 6
        · have hk0 : keyH p = 0 := if_pos h6
          have htk : Hid (∀ W, Below wA.heap.size wA W → Calls Try.prog 32 #[.pointer (some ⟨w.heap.size, 870, none⟩), .int .i64 a, .int .i64 1] W fun e w' => e = .returned (.bool true) ∧ Taken w' w.heap.size (ps.take (k + 1)) ∧ Kept w.heap.size W w') := Lib.hid fun W hb => by
            have := take_seat (HTK.out.keep (hb.block _ hglt)) ha har hkh hz7 hfree (by rw [List.length_take]; omega)
            rwa [hk0, ← htake.out, h6] at this
          have hroom : Hid (∀ W, Calls Try.prog 33 #[.int .u8 6] W fun e w' => e = .returned (.int .i64 1) ∧ W = w') := Lib.hid fun W => broom_any 6 (by omega) W
          rw [h6] at c5
          clear hfree htake HTK hk0 hkh ha har h7 e7 hzz hz0 hz7 h6
          replace c5 : wA.cell? ⟨g, o + k * 14 + 5, none⟩ = some (.int .u8 6) := c5
          go_wp2_with fail
          go_region_held3 (fun w' => w'.cell? ⟨wA.heap.size, 4, none⟩ = some (.int .u8 0) ∧ w'.cell? ⟨wA.heap.size, 5, none⟩ = some (.int .u8 6) ∧ w'.cell? ⟨wA.heap.size, 6, none⟩ = some (.int .i64 a))
            (first
              | go_keep
              | (refine ⟨k6.cell (by simp; omega) ?_, k6.cell (by simp; omega) ?_, k6.cell (by simp; omega) ?_⟩ <;> first | assumption | go_keep | simp_all))
            (first
              | (go_at_call 33; refine (hroom.out _).mono ?_; rintro e w5 ⟨rfl, rfl⟩)
              | (go_at_call 32; refine (htk.out _ (by repeat (first | (with_reducible exact Below.refl _ _) | (with_reducible assumption) | ((with_reducible refine Below.setCell ?_ ?_ _); rotate_left; focus (simp; done)) | ((with_reducible refine Below.alloc ?_ ?_ _); rotate_left; focus (simp; done)) | (with_reducible refine Below.drew ?_)))).mono ?_; rintro e w6 ⟨rfl, t6, k6⟩))
          go_wp2_with fail
          go_roundw
          case rel => exact ⟨k + 1, by go_num, by omega, t6, HBW.out.trans ((k6.below (B := w.heap.size) (by simp; omega) (Nat.le_refl _) |> fun h => ((by repeat (first | (with_reducible exact Below.refl _ _) | ((with_reducible refine Below.setCell ?_ ?_ _); rotate_left; focus (simp; omega)) | ((with_reducible refine Below.alloc ?_ ?_ _); rotate_left; focus (first | omega | (simp; omega))) | (with_reducible refine Below.drew ?_))) : Below w.heap.size wA _).trans h).mono (Nat.le_refl _))⟩
          case measure => simp [RowKit.intOf]; omega
        · have e6 : ((p.zn : Int) == 6) = false := by simp; omega
          have hk0 : keyH p = p.hs := if_neg h6
          have hhs : (p.hs : Int) < 2 := by rw [hk0] at hkh; omega
          have hhs0 : (0 : Int) ≤ (p.hs : Int) := by omega
          have htk : Hid (∀ W, Below wA.heap.size wA W → Calls Try.prog 32 #[.pointer (some ⟨w.heap.size, p.hs * 1015 + p.zn * 145, none⟩), .int .i64 a, .int .i64 (roomN p.zn)] W fun e w' => e = .returned (.bool true) ∧ Taken w' w.heap.size (ps.take (k + 1)) ∧ Kept w.heap.size W w') := Lib.hid fun W hb => by
            have := take_seat (HTK.out.keep (hb.block _ hglt)) ha har hkh hz7 hfree (by rw [List.length_take]; omega)
            rwa [hk0, ← htake.out] at this
          have hroom := Lib.hid fun W => broom_any p.zn (by omega) W
          clear hfree htake HTK hk0 hkh ha

          go_wp2_with fail
          go_region_held3 (fun w' => w'.cell? ⟨wA.heap.size, 4, none⟩ = some (.int .u8 p.hs) ∧ w'.cell? ⟨wA.heap.size, 5, none⟩ = some (.int .u8 p.zn) ∧ w'.cell? ⟨wA.heap.size, 6, none⟩ = some (.int .i64 a))
            (first
              | go_keep
              | (refine ⟨k6.cell (by simp; omega) ?_, k6.cell (by simp; omega) ?_, k6.cell (by simp; omega) ?_⟩ <;> first | assumption | go_keep | simp_all))
            (first
              | (go_at_call 33; refine (hroom.out _).mono ?_; rintro e w5 ⟨rfl, rfl⟩)
              | (go_at_call 32; refine (htk.out _ (by repeat (first | (with_reducible exact Below.refl _ _) | (with_reducible assumption) | ((with_reducible refine Below.setCell ?_ ?_ _); rotate_left; focus (simp; done)) | ((with_reducible refine Below.alloc ?_ ?_ _); rotate_left; focus (simp; done)) | (with_reducible refine Below.drew ?_)))).mono ?_; rintro e w6 ⟨rfl, t6, k6⟩))
          go_wp2_with fail
          go_roundw
          case rel => exact ⟨k + 1, by go_num, by omega, t6, HBW.out.trans ((k6.below (B := w.heap.size) (by simp; omega) (Nat.le_refl _) |> fun h => ((by repeat (first | (with_reducible exact Below.refl _ _) | ((with_reducible refine Below.setCell ?_ ?_ _); rotate_left; focus (simp; omega)) | ((with_reducible refine Below.alloc ?_ ?_ _); rotate_left; focus (first | omega | (simp; omega))) | (with_reducible refine Below.drew ?_))) : Below w.heap.size wA _).trans h).mono (Nat.le_refl _))⟩
          case measure => simp [RowKit.intOf]; omega
    · obtain rfl : k = t.np := by omega
      have htf := HTK.out
      rw [List.take_of_length_le (by omega)] at htf
      have HTF := Lib.hid htf
      clear htf hnp
      have z0 := bunbroken_yes w.heap.size 0 _ wA (by have := HG.out.zones HTF.out (q := 0) (by omega); rwa [Nat.zero_mul] at this)
      have z1 := Lib.hid fun n => bunbroken_yes w.heap.size 1015 _ (wA.drewN n) ((HG.out.zones HTF.out (q := 1) (by omega)).drewN n)
      go_wp2_with fail
      refine z0.mono ?_
      rintro e w1 ⟨rfl, m, rfl⟩
      go_wp2_with fail
      refine (z1.out m).mono ?_
      rintro e w2 ⟨rfl, m2, rfl⟩
      go_wp2_with fail
      go_ret
      exact ⟨rfl, HBW.out.trans ⟨rfl, rfl, rfl, Nat.le_refl _, fun _ _ => rfl⟩⟩
end Go.Proofs.Ytlbbabojejimpaa

/- board: pieceMay, zoneMay say yes of a piece that may be. -/
namespace Go.Proofs.Ytlbbabojejimpaa
open Go.RowKit Go.Lib

set_option maxHeartbeats 2000000 in
theorem bpiece_yes (xs : List Cd) (p : Pc) (n : Nat) (w : World) (h : OneP xs p) (hn : n = xs.length) : Calls Try.prog 19 #[.agg (pcV p).toArray, .int .i64 n] w fun e w' => e = .returned (.bool true) ∧ Below w.heap.size w w' := by
  have d1 : p.df ≥ -1 := h.df.1
  have d2 : p.df < (n : Int) := by have := h.df.2; omega
  have o1 : (p.ow : Int) ≤ 1 := by have := h.ow; omega
  have o2 : (p.hs : Int) ≤ 1 := by have := h.hs; omega
  have o3 : (p.zn : Int) ≤ 7 := by have := h.zn; omega
  have A := Lib.hid fun W => bnumber_yes p.ak h.ak W
  have G := Lib.hid fun W => bnumber_yes p.gd h.gd W
  clear h hn
  simp only [pcV]
  go_enter Try.func19, Try.ntmps19
  go_wp2_with fail
  refine (A.out _).mono ?_
  rintro e w1 ⟨rfl, rfl⟩
  go_wp2_with fail
  refine (G.out _).mono ?_
  rintro e w1 ⟨rfl, rfl⟩
  go_wp2_with fail
  go_ret
  exact ⟨rfl, (Below.refl _ _).alloc (Nat.le_refl _) _⟩

set_option maxHeartbeats 4000000 in
theorem bzone_yes (xs : List Cd) (p : Pc) (K : Nat) (w : World) (h : OneP xs p) (hK : K = kindI xs p.df) : Calls Try.prog 20 #[.agg (pcV p).toArray, .int .u8 K] w fun e w' => e = .returned (.bool true) ∧ Below w.heap.size w w' := by
  have h1 := h.sh
  have h2 := h.unit
  have h3 := h.back
  have h4 := h.tok
  have h5 := h.not
  have h6 := h.zn
  rw [← hK] at h2 h3
  clear h hK
  simp only [pcV]
  generalize p.zn = z at *
  by_cases hd : p.df = -1
  · have d1 : (p.df == -1) = true := by simp [hd]
    rcases h4 hd with rfl | rfl
    · clear h1 h2 h3 h4 h5 hd
      go_enter Try.func20, Try.ntmps20
      go_wp2_with fail
      go_ret
      exact ⟨rfl, (Below.refl _ _).alloc (Nat.le_refl _) _⟩
    · have e1 : ((p.hs : Int) == (p.ow : Int)) = true := by
        rcases h1 with h1 | h1
        · simp [h1]
        · simp [sharedB] at h1
      clear h1 h2 h3 h4 h5 hd
      go_enter Try.func20, Try.ntmps20
      go_wp2_with fail
      go_ret
      exact ⟨rfl, (Below.refl _ _).alloc (Nat.le_refl _) _⟩
  · have d1 : (p.df == -1) = false := by simp [hd]
    have h7 := h5 hd
    have hfit : fitsB K z = true := by
      unfold fitsB
      by_cases ha : z = 2 ∨ z = 6
      · rw [if_pos ha, h2 ha]; rfl
      · rw [if_neg ha]
        by_cases hb : z = 3
        · rw [if_pos hb]; simpa using h3 hb
        · rw [if_neg hb]
    have n7 : ((z : Int) != 7) = true := by simp; omega
    have hF := Lib.hid fun W => bfits_any K z h6 W
    have hP := Lib.hid fun W => bpile_any z h6 W
    rw [hfit] at hF
    by_cases hs : p.hs = p.ow
    · have e1 : ((p.hs : Int) == (p.ow : Int)) = true := by simp [hs]
      clear h1 h2 h3 h4 h5 hd hs hfit hP
      go_enter Try.func20, Try.ntmps20
      go_wp2_with fail
      refine (hF.out _).mono ?_
      rintro e w1 ⟨rfl, rfl⟩
      go_wp2_with fail
      go_ret
      exact ⟨rfl, (Below.refl _ _).alloc (Nat.le_refl _) _⟩
    · have e1 : ((p.hs : Int) == (p.ow : Int)) = false := by simp; omega
      have hpl : pileB z = false := by
        rcases h1 with h1 | h1
        · exact absurd h1.symm hs
        · rcases eight h6 with rfl | rfl | rfl | rfl | rfl | rfl | rfl | rfl <;> first | rfl | (simp [sharedB] at h1)
      rw [hpl] at hP
      clear h1 h2 h3 h4 h5 hd hs hfit hpl
      go_enter Try.func20, Try.ntmps20
      go_wp2_with fail
      refine (hF.out _).mono ?_
      rintro e w1 ⟨rfl, rfl⟩
      go_wp2_with fail
      refine (hP.out _).mono ?_
      rintro e w1 ⟨rfl, rfl⟩
      go_wp2_with fail
      go_ret
      exact ⟨rfl, (Below.refl _ _).alloc (Nat.le_refl _) _⟩
end Go.Proofs.Ytlbbabojejimpaa

/- board: May says yes of a table that may be. -/
namespace Go.Proofs.Ytlbbabojejimpaa
open Go.RowKit Go.Lib

set_option maxHeartbeats 1000000 in
set_option maxRecDepth 100000 in
theorem bmay_zero (t : Tb) (w : World) (h : t.tn < 1) : Calls Try.prog 15 #[.agg t.row] w fun e w' => e = .returned (.bool false) ∧ Below w.heap.size w w' := by
  simp only [Tb.row]
  go_enter Try.func15, Try.ntmps15
  go_wp2_with fail
  go_ret
  exact ⟨rfl, (Below.refl _ _).alloc (Nat.le_refl _) _⟩

set_option maxHeartbeats 8000000 in
set_option maxRecDepth 100000 in
theorem bmay_yes (t : Tb) (xs : List Cd) (ps : List Pc) (w : World) (hT : TabIn w t xs ps) (hL : LifeOk t) (hG : GoodB xs ps) : Calls Try.prog 15 #[.agg t.row] w fun e w' => e = .returned (.bool true) ∧ Below w.heap.size w w' := by
  obtain ⟨qk, nk, ck, qp, np, cp, vl0, vl1, tn, py, mo, qe, ne, ce, vb0, vb1⟩ := t
  have HN := Lib.hid hT.np
  have HK := Lib.hid hT.nk
  have HT := Lib.hid hT
  have HG := Lib.hid hG
  have hpl := Lib.hid fun (W : World) (hb : Below w.heap.size w W) => bplaces_yes ⟨qk, nk, ck, qp, np, cp, vl0, vl1, tn, py, mo, qe, ne, ce, vb0, vb1⟩ xs ps W (hT.below hb) hG
  have hko := Lib.hid fun (W : World) (hb : Below w.heap.size w W) (d : Int) => bkindOf_any ⟨qk, nk, ck, qp, np, cp, vl0, vl1, tn, py, mo, qe, ne, ce, vb0, vb1⟩ xs ps d W (hT.below hb)
  dsimp only at HN HK hpl hko
  have h1 : ¬ tn < 1 := by have := hL.tn; dsimp only at this; omega
  have h2 : ¬ (py : Int) > 1 := by have := hL.py; dsimp only at this; omega
  have h3 : ¬ (np : Int) > 144 := by have := hG.few; have := HN.out.1; omega
  have h4 : np ≤ 144 := by omega
  have l0 : ¬ vl0 < 0 := by have := hL.l0; dsimp only at this; omega
  have l1 : ¬ vl0 > 99999 := by have := hL.l0; dsimp only at this; omega
  have l2 : ¬ vl1 < 0 := by have := hL.l1; dsimp only at this; omega
  have l3 : ¬ vl1 > 99999 := by have := hL.l1; dsimp only at this; omega
  clear hT hL hG
  obtain ⟨w0, hw0⟩ : ∃ w0, w0 = w.alloc (.cells (Tb.row ⟨qk, nk, ck, qp, np, cp, vl0, vl1, tn, py, mo, qe, ne, ce, vb0, vb1⟩) 28) := ⟨_, rfl⟩
  have hb0 : Below w.heap.size w w0 := by rw [hw0]; exact (Below.refl _ _).alloc (Nat.le_refl _) _
  have hx0 : w0.heap[w.heap.size]? = some (.cells (Tb.row ⟨qk, nk, ck, qp, np, cp, vl0, vl1, tn, py, mo, qe, ne, ce, vb0, vb1⟩) 28 (0, 0)) := by rw [hw0]; exact heap_alloc_new _ _
  have HB0 := Lib.hid hb0
  have HX0 := Lib.hid hx0
  have HW0 := Lib.hid hw0
  clear hb0 hx0 hw0
  simp only [Tb.row] at *
  have hix0 : ∀ W : World, (Instr.index 24 (.agg #[.int .i64 vl0, .int .i64 vl1]) (.int .i64 0)).run Try.prog W = .ok (.int .i64 vl0) W := fun W => by kernel_rfl
  have hix1 : ∀ W : World, (Instr.index 24 (.agg #[.int .i64 vl0, .int .i64 vl1]) (.int .i64 1)).run Try.prog W = .ok (.int .i64 vl1) W := fun W => by kernel_rfl
  go_enter Try.func15, Try.ntmps15
  go_wp2_with fail
  rw [← HW0.out]
  go_loopw [23] (fun vi wr => (vi = .int .i64 0 ∨ vi = .int .i64 1 ∨ vi = .int .i64 2) ∧ wr = w0) (fun vi _ => 2 - (RowKit.intOf vi).toNat)
  case atStart => exact ⟨.inl rfl, rfl⟩
  case round =>
    obtain ⟨hk3, rfl⟩ := hrel
    rcases hk3 with rfl | rfl | rfl
    · go_wp2_with fail
      go_roundw
      case rel => exact ⟨.inr (.inl rfl), by first | trivial | rfl⟩
      case measure => simp [RowKit.intOf]
    · go_wp2_with fail
      go_roundw
      case rel => exact ⟨.inr (.inr rfl), by first | trivial | rfl⟩
      case measure => simp [RowKit.intOf]
    · have y1 := cell_blk (i := 1) HX0.out
      simp at y1
      have hlt0 := heap_lt HX0.out
      clear hix0 hix1 l0 l1 l2 l3
      go_wp2_with fail
      rename World => w0
      go_loopw [36] (fun vi wr => ∃ k : Nat, vi = .int .i64 k ∧ k ≤ np ∧ Below w0.heap.size w0 wr) (fun vi _ => np - (RowKit.intOf vi).toNat)
      case atStart => exact ⟨0, by rfl, by omega, Below.refl _ _⟩
      case round =>
        obtain ⟨k, rfl, hk, hbw⟩ := hrel
        rename World => wA
        have hx1 := (hbw.block _ (heap_lt HX0.out)).trans HX0.out
        have hltA := heap_lt hx1
        have z0 := cell_blk (i := 0) hx1
        have z1 := cell_blk (i := 1) hx1
        simp at z0 z1
        have HBW := Lib.hid hbw
        have HBw : Hid (Below w.heap.size w wA) := Lib.hid (HB0.out.trans (hbw.mono HB0.out.size))
        clear hx1 hbw
        by_cases hlt : k < np
        · obtain ⟨p, hp⟩ : ∃ p, ps[k]? = some p := ⟨ps[k]'(by have := HN.out; omega), List.getElem?_eq_getElem _⟩
          obtain ⟨g, o, hq, hg, hc⟩ := HT.out.piece hp
          dsimp only at hq
          subst hq
          have hone := HG.out.one p (List.mem_of_getElem? hp)
          have hc := fun j u hu => cell_later HBw.out (hc j u hu)
          have c0 := hc 0 _ rfl
          have c1 := hc 1 _ rfl
          have c2 := hc 2 _ rfl
          have c3 := hc 3 _ rfl
          have c4 := hc 4 _ rfl
          have c5 := hc 5 _ rfl
          have c6 := hc 6 _ rfl
          have c7 := hc 7 _ rfl
          have c8 := hc 8 _ rfl
          have c9 := hc 9 _ rfl
          have c10 := hc 10 _ rfl
          have c11 := hc 11 _ rfl
          have c12 := hc 12 _ rfl
          have c13 := hc 13 _ rfl
          simp only [Nat.add_zero] at c0
          have HPM := Lib.hid fun W => bpiece_yes xs p nk W hone HK.out.1
          have HZM := Lib.hid fun W => bzone_yes xs p _ W hone rfl
          simp only [pcV] at HPM HZM
          have i0 : (0 : Int) ≤ (k : Int) := by omega
          have i1 : (k : Int) < (np : Int) := by omega
          clear hc hp hone
          go_wp2_with fail
          go_region_held3 (fun w' => w'.cell? ⟨wA.heap.size, 0, none⟩ = some (.int .i64 p.df) ∧ w'.cell? ⟨wA.heap.size, 1, none⟩ = some (.int .i64 p.ak) ∧ w'.cell? ⟨wA.heap.size, 2, none⟩ = some (.int .i64 p.gd) ∧ w'.cell? ⟨wA.heap.size, 3, none⟩ = some (.int .u8 p.ow) ∧ w'.cell? ⟨wA.heap.size, 4, none⟩ = some (.int .u8 p.hs) ∧ w'.cell? ⟨wA.heap.size, 5, none⟩ = some (.int .u8 p.zn) ∧ w'.cell? ⟨wA.heap.size, 6, none⟩ = some (.int .i64 p.pl) ∧ w'.cell? ⟨wA.heap.size, 7, none⟩ = some (.bool p.up) ∧ w'.cell? ⟨wA.heap.size, 8, none⟩ = some (.bool p.lw) ∧ w'.cell? ⟨wA.heap.size, 9, none⟩ = some (.int .i64 p.sc) ∧ w'.cell? ⟨wA.heap.size, 10, none⟩ = some (.int .u8 p.us) ∧ w'.cell? ⟨wA.heap.size, 11, none⟩ = some (.bool p.sk) ∧ w'.cell? ⟨wA.heap.size, 12, none⟩ = some (.bool p.tu) ∧ w'.cell? ⟨wA.heap.size, 13, none⟩ = some (.int .i64 p.bo) ∧ w'.cell? ⟨w.heap.size, 0, none⟩ = some (.slice qk nk ck))
            (first
              | go_keep
              | ((repeat' apply And.intro) <;> (refine cell_later b5 ?_) <;> first | assumption | go_keep | simp_all))
            (first
              | (go_at_call 19; refine (HPM.out _).mono ?_; rintro e w5 ⟨rfl, b5⟩; have B5 : Below w0.heap.size w0 w5 := ((by repeat (first | (with_reducible exact HBW.out) | (with_reducible exact B5) | ((with_reducible refine Below.alloc ?_ ?_ _); rotate_left; focus (have := HBW.out.size; first | omega | (simp; omega))) | (with_reducible refine Below.drew ?_))) : Below w0.heap.size w0 _).trans (b5.mono (by have := HBW.out.size; simp; omega)))
              | (go_at_call 21; refine (hko.out _ (HB0.out.trans (((by repeat (first | (with_reducible exact HBW.out) | (with_reducible exact B5) | ((with_reducible refine Below.alloc ?_ ?_ _); rotate_left; focus (have := HBW.out.size; first | omega | (simp; omega))) | (with_reducible refine Below.drew ?_))) : Below w0.heap.size w0 _).mono HB0.out.size)) _).mono ?_; rintro e w5 ⟨rfl, rfl⟩)
              | (go_at_call 20; refine (HZM.out _).mono ?_; rintro e w5 ⟨rfl, b5⟩; have B6 : Below w0.heap.size w0 w5 := ((by repeat (first | (with_reducible exact HBW.out) | (with_reducible exact B5) | ((with_reducible refine Below.alloc ?_ ?_ _); rotate_left; focus (have := HBW.out.size; first | omega | (simp; omega))) | (with_reducible refine Below.drew ?_))) : Below w0.heap.size w0 _).trans (b5.mono (by have := B5.size; simp; omega))))
          go_wp2_with fail
          go_roundw
          case rel => exact ⟨k + 1, by go_num, by omega, by first | exact B6 | exact B6.drew⟩
          case measure => simp [RowKit.intOf]; omega
        · obtain rfl : k = np := by omega
          go_wp2_with fail
          refine (hpl.out _ HBw.out).mono ?_
          rintro e w2 ⟨rfl, b2⟩
          go_wp2_with fail
          go_ret
          exact ⟨rfl, HBw.out.trans (b2.mono HBw.out.size)⟩
end Go.Proofs.Ytlbbabojejimpaa
