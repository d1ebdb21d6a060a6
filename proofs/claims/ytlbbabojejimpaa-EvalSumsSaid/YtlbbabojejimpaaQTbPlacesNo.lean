import Derived.Test.YtlbbabojejimpaaQTbSeatsIf
/- board: placesMay says no of pieces that may not be where they are. -/
namespace Go.Proofs.Ytlbbabojejimpaa
open Go.RowKit Go.Lib

set_option maxHeartbeats 8000000 in
set_option maxRecDepth 100000 in
theorem bplaces_no (t : Tb) (xs : List Cd) (ps : List Pc) (w : World) (hT : TabIn w t xs ps) (hP : ∀ p ∈ ps, p.hs ≤ 1 ∧ p.zn ≤ 7) (hF : ps.length ≤ 144) (hN : ¬ (SeatQ ps ∧ FullQ ps 0 ∧ FullQ ps 1)) :
    Calls Try.prog 22 #[.slice t.qp t.np t.cp] w fun e w' => e = .returned (.bool false) ∧ Below w.heap.size w w' := by
  have HN := Lib.hid hT.np
  have HT := Lib.hid hT
  have HP0 := Lib.hid hP
  have HF := Lib.hid hF
  have HNO := Lib.hid hN
  clear hT hP hF hN
  obtain ⟨Z, hZ⟩ : ∃ Z, Z = zeroSeats := ⟨_, rfl⟩
  have hzero : ∀ W : World, Sem.run Try.prog (zeroValue 77) W = .ok (.agg Z) W := fun W => by rw [hZ]; exact zero_seats W
  have HZ := Lib.hid hZ
  clear hZ
  obtain ⟨w0, hw0⟩ : ∃ w0, w0 = w.alloc (.cells Z 77) := ⟨_, rfl⟩
  have hb0 : Below w.heap.size w w0 := by rw [hw0]; exact (Below.refl _ _).alloc (Nat.le_refl _) _
  have ht0 : Taken w0 w.heap.size [] := Taken.zero (by rw [hw0, ← HZ.out]; exact heap_alloc_new _ _)
  have HB0 := Lib.hid hb0
  have HT0 := Lib.hid ht0
  have HW0 := Lib.hid hw0
  clear hb0 ht0 hw0
  go_enter Try.func22, Try.ntmps22
  go_wp2_with fail
  rw [← HW0.out]
  go_loopw [8] (fun vi wr => ∃ k : Nat, vi = .int .i64 k ∧ k ≤ t.np ∧ Taken wr w.heap.size (ps.take k) ∧ SeatQ (ps.take k) ∧ Below w.heap.size w wr) (fun vi _ => t.np - (RowKit.intOf vi).toNat)
  case atStart => exact ⟨0, by rfl, by omega, by rw [List.take_zero]; exact HT0.out, by rw [List.take_zero]; exact SeatQ.nil, HB0.out⟩
  case round =>
    obtain ⟨k, rfl, hk, htk, hsq, hbw⟩ := hrel
    rename World => wA
    have HTK := Lib.hid htk
    have HSQ := Lib.hid hsq
    have HBW := Lib.hid hbw
    have hglt := htk.lt
    clear htk hbw hsq
    have hnp := HN.out.1
    by_cases hlt : k < t.np
    · obtain ⟨p, hp⟩ : ∃ p, ps[k]? = some p := ⟨ps[k]'(by omega), List.getElem?_eq_getElem _⟩
      obtain ⟨g, o, hq, hg, hc⟩ := HT.out.piece hp
      have hfewk : t.np ≤ 144 := by have := HF.out; omega
      have i0 : (0 : Int) ≤ (k : Int) := by omega
      have i1 : (k : Int) < (t.np : Int) := by omega
      have hc := fun j u hu => cell_later HBW.out (hc j u hu)
      have c0 := hc 0 _ rfl
      have c1 := hc 1 _ rfl
      have c2 := hc 2 _ rfl
      have c3 := hc 3 _ rfl
      have c4 := hc 4 _ rfl
      have c5 := hc 5 _ rfl
      have c6 := hc 6 _ rfl
      have c7 := hc 7 _ rfl
      have c8 := hc 8 _ rfl
      have c9 := hc 9 _ rfl
      have c10 := hc 10 _ rfl
      have c11 := hc 11 _ rfl
      have c12 := hc 12 _ rfl
      have c13 := hc 13 _ rfl
      simp only [Nat.add_zero] at c0
      have HP := Lib.hid hp
      have htake := Lib.hid (take_more hp)
      clear hc hp hnp
      rw [hq]
      by_cases h7 : p.zn = 7
      · have e7 : ((p.zn : Int) == 7) = true := by simp [h7]
        by_cases hpl : p.pl = 0
        · have el : (p.pl == 0) = true := by simp [hpl]
          have H7 := Lib.hid h7
          have HPL := Lib.hid hpl
          clear h7 hpl
          go_wp2_with fail
          go_roundw
          case rel => exact ⟨k + 1, by go_num, by omega, by
            rw [htake.out]
            exact (HTK.out.keep (Below.heap_alloc _ _ _ hglt)).skip H7.out, by rw [htake.out]; exact HSQ.out.snoc (fun _ => HPL.out) (fun h => absurd H7.out h) (fun h => absurd H7.out h), HBW.out.alloc HBW.out.size _⟩
          case measure => simp [RowKit.intOf]; omega
        · have el : (p.pl == 0) = false := by simp [hpl]
          clear h7 hpl
          go_wp2_with fail
          go_ret
          exact ⟨rfl, HBW.out.alloc HBW.out.size _⟩
      · have e7 : ((p.zn : Int) == 7) = false := by simp; omega
        have hpq := HP0.out p (List.mem_of_getElem? HP.out)
        have hkh : keyH p < 2 := by unfold keyH; split <;> omega
        have hz7 : p.zn < 7 := by omega
        have hzz : (p.zn : Int) < 7 := by omega
        have hz0 : (0 : Int) ≤ (p.zn : Int) := by omega
        by_cases h6 : p.zn = 6
        · have e6 : ((p.zn : Int) == 6) = true := by simp [h6]
          have hk0 : keyH p = 0 := if_pos h6
          clear hpq
          have htk : Hid (∀ W, Below wA.heap.size wA W → Calls Try.prog 32 #[.pointer (some ⟨w.heap.size, 870, none⟩), .int .i64 p.pl, .int .i64 1] W fun e w' => (∃ b, e = .returned (.bool b) ∧ (b = true → Taken w' w.heap.size (ps.take (k + 1)) ∧ SeatQ (ps.take (k + 1)))) ∧ Kept w.heap.size W w') := Lib.hid fun W hb => by
            have := take_seat_any (p := p) (HTK.out.keep (hb.block _ hglt)) hkh hz7 (by rw [List.length_take]; omega)
            rw [hk0, h6] at this
            refine this.mono ?_
            rintro e w' ⟨⟨b, rfl, hb⟩, k'⟩
            refine ⟨⟨b, rfl, fun h => ?_⟩, k'⟩
            obtain ⟨t1, t2, t3⟩ := hb h
            rw [htake.out]
            exact ⟨t1, HSQ.out.snoc (fun h => absurd h h7) (fun _ => by rw [h6]; exact t2) (fun _ => by rw [hk0, h6]; exact t3)⟩
          have hroom : Hid (∀ W, Calls Try.prog 33 #[.int .u8 6] W fun e w' => e = .returned (.int .i64 1) ∧ W = w') := Lib.hid fun W => broom_any 6 (by omega) W
          rw [h6] at c5
          clear htake HTK hk0 hkh h7 e7 hzz hz0 hz7 h6
          replace c5 : wA.cell? ⟨g, o + k * 14 + 5, none⟩ = some (.int .u8 6) := c5
          go_wp2_with fail
          go_region_held3 (fun w' => w'.cell? ⟨wA.heap.size, 4, none⟩ = some (.int .u8 0) ∧ w'.cell? ⟨wA.heap.size, 5, none⟩ = some (.int .u8 6) ∧ w'.cell? ⟨wA.heap.size, 6, none⟩ = some (.int .i64 p.pl))
            (first
              | go_keep
              | (refine ⟨k6.cell (by simp; omega) ?_, k6.cell (by simp; omega) ?_, k6.cell (by simp; omega) ?_⟩ <;> first | assumption | go_keep | simp_all))
            (first
              | (go_at_call 33; refine (hroom.out _).mono ?_; rintro e w5 ⟨rfl, rfl⟩)
              | (go_at_call 32; refine (htk.out _ (by repeat (first | (with_reducible exact Below.refl _ _) | (with_reducible assumption) | ((with_reducible refine Below.setCell ?_ ?_ _); rotate_left; focus (simp; done)) | ((with_reducible refine Below.alloc ?_ ?_ _); rotate_left; focus (simp; done)) | (with_reducible refine Below.drew ?_)))).mono ?_; rintro e w6 ⟨⟨b6, rfl, t6⟩, k6⟩))
          cases b6 with
          | true =>
            have T6 := Lib.hid (t6 rfl)
            clear t6
            go_wp2_with fail
            go_roundw
            case rel => exact ⟨k + 1, by go_num, by omega, T6.out.1, T6.out.2, HBW.out.trans ((k6.below (B := w.heap.size) (by simp; omega) (Nat.le_refl _) |> fun h => (((by repeat (first | (with_reducible exact Below.refl _ _) | ((with_reducible refine Below.setCell ?_ ?_ _); rotate_left; focus (simp; omega)) | ((with_reducible refine Below.alloc ?_ ?_ _); rotate_left; focus (first | omega | (simp; omega))) | (with_reducible refine Below.drew ?_))) : Below w.heap.size wA _)).trans h).mono (Nat.le_refl _))⟩
            case measure => simp [RowKit.intOf]; omega
          | false =>
            clear t6
            go_wp2_with fail
            go_ret
            exact ⟨rfl, HBW.out.trans ((k6.below (B := w.heap.size) (by simp; omega) (Nat.le_refl _) |> fun h => (((by repeat (first | (with_reducible exact Below.refl _ _) | ((with_reducible refine Below.setCell ?_ ?_ _); rotate_left; focus (simp; omega)) | ((with_reducible refine Below.alloc ?_ ?_ _); rotate_left; focus (first | omega | (simp; omega))) | (with_reducible refine Below.drew ?_))) : Below w.heap.size wA _)).trans h).mono (Nat.le_refl _))⟩
        · have e6 : ((p.zn : Int) == 6) = false := by simp; omega
          have hk0 : keyH p = p.hs := if_neg h6
          have hhs : (p.hs : Int) < 2 := by omega
          have hhs0 : (0 : Int) ≤ (p.hs : Int) := by omega
          clear hpq
          have htk : Hid (∀ W, Below wA.heap.size wA W → Calls Try.prog 32 #[.pointer (some ⟨w.heap.size, p.hs * 1015 + p.zn * 145, none⟩), .int .i64 p.pl, .int .i64 (roomN p.zn)] W fun e w' => (∃ b, e = .returned (.bool b) ∧ (b = true → Taken w' w.heap.size (ps.take (k + 1)) ∧ SeatQ (ps.take (k + 1)))) ∧ Kept w.heap.size W w') := Lib.hid fun W hb => by
            have := take_seat_any (p := p) (HTK.out.keep (hb.block _ hglt)) hkh hz7 (by rw [List.length_take]; omega)
            rw [hk0] at this
            refine this.mono ?_
            rintro e w' ⟨⟨b, rfl, hb⟩, k'⟩
            refine ⟨⟨b, rfl, fun h => ?_⟩, k'⟩
            obtain ⟨t1, t2, t3⟩ := hb h
            rw [htake.out]
            exact ⟨t1, HSQ.out.snoc (fun h => absurd h h7) (fun _ => t2) (fun _ => by rw [hk0]; exact t3)⟩
          have hroom := Lib.hid fun W => broom_any p.zn (by omega) W
          clear htake HTK hk0 hkh h7
          go_wp2_with fail
          go_region_held3 (fun w' => w'.cell? ⟨wA.heap.size, 4, none⟩ = some (.int .u8 p.hs) ∧ w'.cell? ⟨wA.heap.size, 5, none⟩ = some (.int .u8 p.zn) ∧ w'.cell? ⟨wA.heap.size, 6, none⟩ = some (.int .i64 p.pl))
            (first
              | go_keep
              | (refine ⟨k6.cell (by simp; omega) ?_, k6.cell (by simp; omega) ?_, k6.cell (by simp; omega) ?_⟩ <;> first | assumption | go_keep | simp_all))
            (first
              | (go_at_call 33; refine (hroom.out _).mono ?_; rintro e w5 ⟨rfl, rfl⟩)
              | (go_at_call 32; refine (htk.out _ (by repeat (first | (with_reducible exact Below.refl _ _) | (with_reducible assumption) | ((with_reducible refine Below.setCell ?_ ?_ _); rotate_left; focus (simp; done)) | ((with_reducible refine Below.alloc ?_ ?_ _); rotate_left; focus (simp; done)) | (with_reducible refine Below.drew ?_)))).mono ?_; rintro e w6 ⟨⟨b6, rfl, t6⟩, k6⟩))
          cases b6 with
          | true =>
            have T6 := Lib.hid (t6 rfl)
            clear t6
            go_wp2_with fail
            go_roundw
            case rel => exact ⟨k + 1, by go_num, by omega, T6.out.1, T6.out.2, HBW.out.trans ((k6.below (B := w.heap.size) (by simp; omega) (Nat.le_refl _) |> fun h => (((by repeat (first | (with_reducible exact Below.refl _ _) | ((with_reducible refine Below.setCell ?_ ?_ _); rotate_left; focus (simp; omega)) | ((with_reducible refine Below.alloc ?_ ?_ _); rotate_left; focus (first | omega | (simp; omega))) | (with_reducible refine Below.drew ?_))) : Below w.heap.size wA _)).trans h).mono (Nat.le_refl _))⟩
            case measure => simp [RowKit.intOf]; omega
          | false =>
            clear t6
            go_wp2_with fail
            go_ret
            exact ⟨rfl, HBW.out.trans ((k6.below (B := w.heap.size) (by simp; omega) (Nat.le_refl _) |> fun h => (((by repeat (first | (with_reducible exact Below.refl _ _) | ((with_reducible refine Below.setCell ?_ ?_ _); rotate_left; focus (simp; omega)) | ((with_reducible refine Below.alloc ?_ ?_ _); rotate_left; focus (first | omega | (simp; omega))) | (with_reducible refine Below.drew ?_))) : Below w.heap.size wA _)).trans h).mono (Nat.le_refl _))⟩
    · obtain rfl : k = t.np := by omega
      have htf := HTK.out
      have hsf := HSQ.out
      rw [List.take_of_length_le (by omega)] at htf hsf
      have hlen := HF.out
      have hz : ∀ q, q < 2 → ZonesAt wA w.heap.size (q * 1015) (fun z => ps.countP (atZ q z)) (fun z a => ps.any (atP q z a)) := fun q hq => by
        have hoff : ∀ z a, q * 1015 + z * 145 + a = (q * 7 + z) * 145 + a := fun z a => by omega
        refine ⟨fun z _ => Nat.le_trans List.countP_le_length hlen, fun z hz => ?_, fun z hz a ha => ?_⟩
        · rw [hoff]; exact (htf.cells (a := 0) hq hz (by omega)).2.1
        · rw [hoff]; exact (htf.cells hq hz ha).1
      have hfull : ∀ q, FullQ ps q ↔ ∀ z, z < 7 → pileB z = true → ∀ a, a < ps.countP (atZ q z) → ps.any (atP q z a) = true := fun q => ⟨fun h z _ hp a ha => h z a hp ha, fun h z a hp ha => by
        refine h z ?_ hp a ha
        apply Decidable.byContradiction
        intro hz
        have : pileB z = false := by simp [pileB]; omega
        rw [this] at hp; cases hp⟩
      have hno := HNO.out
      clear hnp HTK HSQ
      by_cases h0 : FullQ ps 0
      · have h1 : ¬ FullQ ps 1 := fun h1 => hno ⟨hsf, h0, h1⟩
        have z0 := bunbroken_yes w.heap.size 0 _ wA ((hz 0 (by omega)).ok ((hfull 0).1 h0))
        have z1 := Lib.hid fun n => bunbroken_no w.heap.size 1015 _ _ (wA.drewN n) ((hz 1 (by omega)).drewN n) (fun h => h1 ((hfull 1).2 h))
        clear hz hfull hno h0 h1 hsf htf hlen
        go_wp2_with fail
        refine z0.mono ?_
        rintro e w1 ⟨rfl, m, rfl⟩
        go_wp2_with fail
        refine (z1.out m).mono ?_
        rintro e w2 ⟨rfl, m2, rfl⟩
        go_wp2_with fail
        go_ret
        exact ⟨rfl, HBW.out.trans ⟨rfl, rfl, rfl, Nat.le_refl _, fun _ _ => rfl⟩⟩
      · have z0 := bunbroken_no w.heap.size 0 _ _ wA (hz 0 (by omega)) (fun h => h0 ((hfull 0).2 h))
        clear hz hfull hno h0 hsf htf hlen
        go_wp2_with fail
        refine z0.mono ?_
        rintro e w1 ⟨rfl, m, rfl⟩
        go_wp2_with fail
        go_ret
        exact ⟨rfl, HBW.out.trans ⟨rfl, rfl, rfl, Nat.le_refl _, fun _ _ => rfl⟩⟩
end Go.Proofs.Ytlbbabojejimpaa
