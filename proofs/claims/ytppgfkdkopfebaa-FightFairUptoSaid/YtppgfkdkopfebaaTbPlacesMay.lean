/- board: placesMay says yes of pieces that may be: the walk. -/
import Derived.Test.YtppgfkdkopfebaaTbSeats
namespace Go.Proofs.Ytppgfkdkopfebaa
open Go.RowKit Go.Lib

theorem take_more {α : Type} {xs : List α} {i : Nat} {x : α} (h : xs[i]? = some x) : xs.take (i + 1) = xs.take i ++ [x] := by rw [List.take_add_one, h]; rfl
theorem count_take {f : Pc → Bool} {ps : List Pc} {k : Nat} {p : Pc} (hp : ps[k]? = some p) (hf : f p = true) : (ps.take k).countP f + 1 ≤ ps.countP f := by
  have h1 := count_next f hp
  rw [hf] at h1
  have h2 : (ps.take (k + 1)).countP f ≤ ps.countP f := (List.take_sublist _ _).countP_le
  simp at h1
  omega
/-- The place of a piece that may be, as it comes up. -/
theorem GoodB.seat {xs : List Cd} {ps : List Pc} (h : GoodB xs ps) {k : Nat} {p : Pc} (hp : ps[k]? = some p) (h7 : p.zn ≠ 7) :
    ∃ a : Nat, p.pl = (a : Int) ∧ a < roomN p.zn ∧ keyH p < 2 ∧ p.zn < 7 ∧ (ps.take k).any (atP (keyH p) p.zn a) = false := by
  have hm := List.mem_of_getElem? hp
  have ho := h.one p hm
  have hz := ho.zn
  by_cases h6 : p.zn = 6
  · have hl := ho.nul (.inl h6)
    have hk : keyH p = 0 := if_pos h6
    refine ⟨0, by rw [hl]; rfl, by rw [h6]; decide, by omega, by omega, ?_⟩
    have h1 := count_take (f := fun p => p.zn == 6) hp (by simp [h6])
    have h2 := h.limbo
    rw [List.any_eq_false]
    intro q hq hc
    have h3 : 0 < (ps.take k).countP (fun p => p.zn == 6) := List.countP_pos_iff.2 ⟨q, hq, by
      simp only [atP, Bool.and_eq_true, beq_iff_eq] at hc
      simp [hc.1.2, h6]⟩
    omega
  · have hk : keyH p = p.hs := if_neg h6
    have hpl : 0 ≤ p.pl ∧ p.pl < roomN p.zn := by
      by_cases hs : sharedB p.zn = true
      · have hz3 : p.zn = 2 ∨ p.zn = 3 := by
          rcases eight hz with e | e | e | e | e | e | e | e <;> rw [e] at hs ⊢ <;> first | (simp [sharedB] at hs; done) | omega
        have := ho.row hz3
        have hr : roomN p.zn = 5 := if_pos hz3
        rw [hr]; omega
      · have := h.pile p hm h6 h7 (by simpa using hs)
        have h3 : ps.countP (inZ p.hs p.zn) ≤ ps.length := List.countP_le_length
        have h4 := h.few
        have hr : roomN p.zn = 144 := by
          rcases eight hz with e | e | e | e | e | e | e | e <;> rw [e] at hs ⊢ <;> first | rfl | (simp [sharedB] at hs; done) | omega
        rw [hr]; omega
    obtain ⟨a, ha⟩ : ∃ a : Nat, p.pl = a := ⟨p.pl.toNat, by omega⟩
    refine ⟨a, ha, by omega, by rw [hk]; have := ho.hs; omega, by omega, ?_⟩
    have h1 := count_take (f := inP p.hs p.zn p.pl) hp (by simp [inP, inZ])
    have h2 := h.uniq p hm h6 h7
    rw [List.any_eq_false]
    intro q hq hc
    have h3 : 0 < (ps.take k).countP (inP p.hs p.zn p.pl) := List.countP_pos_iff.2 ⟨q, hq, by
      simp only [atP, Bool.and_eq_true, beq_iff_eq] at hc
      have hq6 : keyH q = q.hs := if_neg (by rw [hc.1.2]; exact h6)
      rw [hq6, hk] at hc
      simp [inP, inZ, hc.1.2, hc.1.1, hc.2, ha]⟩
    omega
theorem GoodB.zones {xs : List Cd} {ps : List Pc} (h : GoodB xs ps) {w : World} {G : Nat} (t : Taken w G ps) {q : Nat} (hq : q < 2) : ZonesOk w G (q * 1015) (fun z => ps.countP (atZ q z)) := by
  have hlen : ∀ z, ps.countP (atZ q z) ≤ 144 := fun z => Nat.le_trans List.countP_le_length h.few
  have hoff : ∀ z a, q * 1015 + z * 145 + a = (q * 7 + z) * 145 + a := fun z a => by omega
  refine ⟨fun z _ => hlen z, fun z hz => ?_, fun z hz hp a ha => ?_⟩
  · rw [hoff]
    exact (t.cells (a := 0) hq hz (by omega)).2.1
  · have ha' : a < 144 := Nat.lt_of_lt_of_le ha (hlen z)
    rw [hoff, (t.cells hq hz ha').1]
    have h6 : z ≠ 6 := by rintro rfl; simp [pileB] at hp
    have hs : sharedB z = false := by
      rcases eight (z := z) (by omega) with rfl | rfl | rfl | rfl | rfl | rfl | rfl | rfl <;> first | rfl | (simp [pileB] at hp)
    have he : ps.countP (atZ q z) = ps.countP (inZ q z) := by
      congr 1
      funext p
      by_cases hz' : p.zn = z
      · have hk : keyH p = p.hs := if_neg (by rw [hz']; exact h6)
        simp [atZ, inZ, hk, Bool.and_comm]
      · have : (p.zn == z) = false := by simpa using hz'
        simp [atZ, inZ, this]
    simp only [he] at ha
    obtain ⟨p, hm, h1, h2, h3⟩ := h.full h6 (by omega) hs ha
    have : ps.any (atP q z a) = true := by
      rw [List.any_eq_true]
      refine ⟨p, hm, ?_⟩
      have hk : keyH p = p.hs := if_neg (by rw [h2]; exact h6)
      simp [atP, hk, h1, h2, h3]
    rw [this]

theorem Taken.skip {w : World} {G : Nat} {l : List Pc} {p : Pc} (t : Taken w G l) (hz : p.zn = 7) : Taken w G (l ++ [p]) := by
  obtain ⟨cs, hc, hs, h1, h2⟩ := t.blk
  refine ⟨cs, hc, hs, fun h z a hh hz' ha => ?_, fun h z hh hz' => ?_⟩
  · have : atP h z a p = false := by
      have : (p.zn == z) = false := by simp; omega
      simp [atP, this]
    rw [List.any_append, h1 h z a hh hz' ha]
    simp [this]
  · have : atZ h z p = false := by
      have : (p.zn == z) = false := by simp; omega
      simp [atZ, this]
    rw [List.countP_append, h2 h z hh hz']
    simp [this]
/-- What take does for a piece that comes up. -/
theorem take_seat {w : World} {G : Nat} {l : List Pc} {p : Pc} {a : Nat} (t : Taken w G l) (ha : p.pl = (a : Int)) (har : a < roomN p.zn) (hk : keyH p < 2) (hz : p.zn < 7) (hf : l.any (atP (keyH p) p.zn a) = false) (hl : l.length ≤ 144) :
    Calls Try.prog 64 #[.pointer (some ⟨G, keyH p * 1015 + p.zn * 145, none⟩), .int .i64 a, .int .i64 (roomN p.zn)] w fun e w' => e = .returned (.bool true) ∧ Taken w' G (l ++ [p]) ∧ Kept G w w' := by
  have hroom : roomN p.zn ≤ 144 := by unfold roomN; split <;> (try split) <;> omega
  have e1 : ∀ b, keyH p * 1015 + p.zn * 145 + b = (keyH p * 7 + p.zn) * 145 + b := fun b => by omega
  have hc := t.cells hk hz (a := a) (by omega)
  rw [hf] at hc
  have hn : l.countP (atZ (keyH p) p.zn) ≤ l.length := List.countP_le_length
  refine (btake_yes G (keyH p * 1015 + p.zn * 145) a (roomN p.zn) _ w har (by rw [e1]; exact hc.1) (by rw [e1]; exact hc.2.1) (by rw [e1]; exact hc.2.2.1) (by rw [e1]; exact hc.2.2.2) hroom (by omega)).mono ?_
  rintro e w' ⟨rfl, rfl⟩
  refine ⟨rfl, by rw [e1, e1]; exact t.snoc hk hz ha (by omega), Kept.setCell (p := ⟨G, _, none⟩) (Kept.setCell (p := ⟨G, _, none⟩) (Kept.refl G w) (.inl rfl) _) (.inl rfl) _⟩

set_option maxHeartbeats 8000000 in
set_option maxRecDepth 100000 in
theorem bplaces_yes (t : Tb) (xs : List Cd) (ps : List Pc) (w : World) (hT : TabIn w t xs ps) (hG : GoodB xs ps) :
    Calls Try.prog 49 #[.slice t.qp t.np t.cp] w fun e w' => e = .returned (.bool true) ∧ Below w.heap.size w w' := by
  have HN := Lib.hid hT.np
  have HT := Lib.hid hT
  have HG := Lib.hid hG
  clear hT hG
  obtain ⟨Z, hZ⟩ : ∃ Z, Z = zeroSeats := ⟨_, rfl⟩
  have hzero : ∀ W : World, Sem.run Try.prog (zeroValue 103) W = .ok (.agg Z) W := fun W => by rw [hZ]; exact zero_seats W
  have HZ := Lib.hid hZ
  clear hZ
  obtain ⟨w0, hw0⟩ : ∃ w0, w0 = w.alloc (.cells Z 103) := ⟨_, rfl⟩
  have hb0 : Below w.heap.size w w0 := by rw [hw0]; exact (Below.refl _ _).alloc (Nat.le_refl _) _
  have ht0 : Taken w0 w.heap.size [] := Taken.zero (by rw [hw0, ← HZ.out]; exact heap_alloc_new _ _)
  have HB0 := Lib.hid hb0
  have HT0 := Lib.hid ht0
  have HW0 := Lib.hid hw0
  clear hb0 ht0 hw0
  go_enter Try.func49, Try.ntmps49
  go_wp2_with fail
  rw [← HW0.out]
  go_loopw [8] (fun vi wr => ∃ k : Nat, vi = .int .i64 k ∧ k ≤ t.np ∧ Taken wr w.heap.size (ps.take k) ∧ Below w.heap.size w wr) (fun vi _ => t.np - (RowKit.intOf vi).toNat)
  case atStart => exact ⟨0, by rfl, by omega, by rw [List.take_zero]; exact HT0.out, HB0.out⟩
  case round =>
    obtain ⟨k, rfl, hk, htk, hbw⟩ := hrel
    rename World => wA
    have HTK := Lib.hid htk
    have HBW := Lib.hid hbw
    have hglt := htk.lt
    clear htk hbw
    have hnp := HN.out.1
    by_cases hlt : k < t.np
    · obtain ⟨p, hp⟩ : ∃ p, ps[k]? = some p := ⟨ps[k]'(by omega), List.getElem?_eq_getElem _⟩
      obtain ⟨g, o, hq, hg, hc⟩ := HT.out.piece hp
      have hfewk : t.np ≤ 144 := by have := HG.out.few; omega
      have i0 : (0 : Int) ≤ (k : Int) := by omega
      have i1 : (k : Int) < (t.np : Int) := by omega
      have hc := fun j u hu => cell_later HBW.out (hc j u hu)
      have c0 := hc 0 _ rfl
      have c1 := hc 1 _ rfl
      have c2 := hc 2 _ rfl
      have c3 := hc 3 _ rfl
      have c4 := hc 4 _ rfl
      have c5 := hc 5 _ rfl
      have c6 := hc 6 _ rfl
      have c7 := hc 7 _ rfl
      have c8 := hc 8 _ rfl
      have c9 := hc 9 _ rfl
      have c10 := hc 10 _ rfl
      have c11 := hc 11 _ rfl
      have c12 := hc 12 _ rfl
      have c13 := hc 13 _ rfl
      simp only [Nat.add_zero] at c0
      have HP := Lib.hid hp
      have htake := Lib.hid (take_more hp)
      clear hc hp hnp
      rw [hq]
      by_cases h7 : p.zn = 7
      · have e7 : ((p.zn : Int) == 7) = true := by simp [h7]
        have hpl := (HG.out.one p (List.mem_of_getElem? HP.out)).nul (.inr h7)
        have el : (p.pl == 0) = true := by simp [hpl]
        have H7 := Lib.hid h7
        clear h7 hpl
        go_wp2_with fail
        go_roundw
        case rel => exact ⟨k + 1, by go_num, by omega, by
          rw [htake.out]
          exact (HTK.out.keep (Below.heap_alloc _ _ _ hglt)).skip H7.out, HBW.out.alloc HBW.out.size _⟩
        case measure => simp [RowKit.intOf]; omega
      · have e7 : ((p.zn : Int) == 7) = false := by simp; omega
        obtain ⟨a, ha, har, hkh, hz7, hfree⟩ := HG.out.seat HP.out h7
        rw [ha] at c6
        have j0 : (0 : Int) ≤ (a : Int) := by omega
        have hzz : (p.zn : Int) < 7 := by omega
        have hz0 : (0 : Int) ≤ (p.zn : Int) := by omega
        by_cases h6 : p.zn = 6
        · have hk0 : keyH p = 0 := if_pos h6
          have htk : Hid (∀ W, Below wA.heap.size wA W → Calls Try.prog 64 #[.pointer (some ⟨w.heap.size, 870, none⟩), .int .i64 a, .int .i64 1] W fun e w' => e = .returned (.bool true) ∧ Taken w' w.heap.size (ps.take (k + 1)) ∧ Kept w.heap.size W w') := Lib.hid fun W hb => by
            have := take_seat (HTK.out.keep (hb.block _ hglt)) ha har hkh hz7 hfree (by rw [List.length_take]; omega)
            rwa [hk0, ← htake.out, h6] at this
          have hroom : Hid (∀ W, Calls Try.prog 65 #[.int .u8 6] W fun e w' => e = .returned (.int .i64 1) ∧ W = w') := Lib.hid fun W => broom_any 6 (by omega) W
          rw [h6] at c5
          clear hfree htake HTK hk0 hkh ha har h7 e7 hzz hz0 hz7 h6
          replace c5 : wA.cell? ⟨g, o + k * 14 + 5, none⟩ = some (.int .u8 6) := c5
          go_wp2_with fail
          go_region_held3 (fun w' => w'.cell? ⟨wA.heap.size, 4, none⟩ = some (.int .u8 0) ∧ w'.cell? ⟨wA.heap.size, 5, none⟩ = some (.int .u8 6) ∧ w'.cell? ⟨wA.heap.size, 6, none⟩ = some (.int .i64 a))
            (first
              | go_keep
              | (refine ⟨k6.cell (by simp; omega) ?_, k6.cell (by simp; omega) ?_, k6.cell (by simp; omega) ?_⟩ <;> first | assumption | go_keep | simp_all))
            (first
              | (go_at_call 65; refine (hroom.out _).mono ?_; rintro e w5 ⟨rfl, rfl⟩)
              | (go_at_call 64; refine (htk.out _ (by repeat (first | (with_reducible exact Below.refl _ _) | (with_reducible assumption) | ((with_reducible refine Below.setCell ?_ ?_ _); rotate_left; focus (simp; done)) | ((with_reducible refine Below.alloc ?_ ?_ _); rotate_left; focus (simp; done)) | (with_reducible refine Below.drew ?_)))).mono ?_; rintro e w6 ⟨rfl, t6, k6⟩))
          go_wp2_with fail
          go_roundw
          case rel => exact ⟨k + 1, by go_num, by omega, t6, HBW.out.trans ((k6.below (B := w.heap.size) (by simp; omega) (Nat.le_refl _) |> fun h => ((by repeat (first | (with_reducible exact Below.refl _ _) | ((with_reducible refine Below.setCell ?_ ?_ _); rotate_left; focus (simp; omega)) | ((with_reducible refine Below.alloc ?_ ?_ _); rotate_left; focus (first | omega | (simp; omega))) | (with_reducible refine Below.drew ?_))) : Below w.heap.size wA _).trans h).mono (Nat.le_refl _))⟩
          case measure => simp [RowKit.intOf]; omega
        · have e6 : ((p.zn : Int) == 6) = false := by simp; omega
          have hk0 : keyH p = p.hs := if_neg h6
          have hhs : (p.hs : Int) < 2 := by rw [hk0] at hkh; omega
          have hhs0 : (0 : Int) ≤ (p.hs : Int) := by omega
          have htk : Hid (∀ W, Below wA.heap.size wA W → Calls Try.prog 64 #[.pointer (some ⟨w.heap.size, p.hs * 1015 + p.zn * 145, none⟩), .int .i64 a, .int .i64 (roomN p.zn)] W fun e w' => e = .returned (.bool true) ∧ Taken w' w.heap.size (ps.take (k + 1)) ∧ Kept w.heap.size W w') := Lib.hid fun W hb => by
            have := take_seat (HTK.out.keep (hb.block _ hglt)) ha har hkh hz7 hfree (by rw [List.length_take]; omega)
            rwa [hk0, ← htake.out] at this
          have hroom := Lib.hid fun W => broom_any p.zn (by omega) W
          clear hfree htake HTK hk0 hkh ha

          go_wp2_with fail
          go_region_held3 (fun w' => w'.cell? ⟨wA.heap.size, 4, none⟩ = some (.int .u8 p.hs) ∧ w'.cell? ⟨wA.heap.size, 5, none⟩ = some (.int .u8 p.zn) ∧ w'.cell? ⟨wA.heap.size, 6, none⟩ = some (.int .i64 a))
            (first
              | go_keep
              | (refine ⟨k6.cell (by simp; omega) ?_, k6.cell (by simp; omega) ?_, k6.cell (by simp; omega) ?_⟩ <;> first | assumption | go_keep | simp_all))
            (first
              | (go_at_call 65; refine (hroom.out _).mono ?_; rintro e w5 ⟨rfl, rfl⟩)
              | (go_at_call 64; refine (htk.out _ (by repeat (first | (with_reducible exact Below.refl _ _) | (with_reducible assumption) | ((with_reducible refine Below.setCell ?_ ?_ _); rotate_left; focus (simp; done)) | ((with_reducible refine Below.alloc ?_ ?_ _); rotate_left; focus (simp; done)) | (with_reducible refine Below.drew ?_)))).mono ?_; rintro e w6 ⟨rfl, t6, k6⟩))
          go_wp2_with fail
          go_roundw
          case rel => exact ⟨k + 1, by go_num, by omega, t6, HBW.out.trans ((k6.below (B := w.heap.size) (by simp; omega) (Nat.le_refl _) |> fun h => ((by repeat (first | (with_reducible exact Below.refl _ _) | ((with_reducible refine Below.setCell ?_ ?_ _); rotate_left; focus (simp; omega)) | ((with_reducible refine Below.alloc ?_ ?_ _); rotate_left; focus (first | omega | (simp; omega))) | (with_reducible refine Below.drew ?_))) : Below w.heap.size wA _).trans h).mono (Nat.le_refl _))⟩
          case measure => simp [RowKit.intOf]; omega
    · obtain rfl : k = t.np := by omega
      have htf := HTK.out
      rw [List.take_of_length_le (by omega)] at htf
      have HTF := Lib.hid htf
      clear htf hnp
      have z0 := bunbroken_yes w.heap.size 0 _ wA (by have := HG.out.zones HTF.out (q := 0) (by omega); rwa [Nat.zero_mul] at this)
      have z1 := Lib.hid fun n => bunbroken_yes w.heap.size 1015 _ (wA.drewN n) ((HG.out.zones HTF.out (q := 1) (by omega)).drewN n)
      go_wp2_with fail
      refine z0.mono ?_
      rintro e w1 ⟨rfl, m, rfl⟩
      go_wp2_with fail
      refine (z1.out m).mono ?_
      rintro e w2 ⟨rfl, m2, rfl⟩
      go_wp2_with fail
      go_ret
      exact ⟨rfl, HBW.out.trans ⟨rfl, rfl, rfl, Nat.le_refl _, fun _ _ => rfl⟩⟩
end Go.Proofs.Ytppgfkdkopfebaa
