import Derived.Test.YtbkjminjkjnkpaaGreatDoorQDkTell
/- Layer 5 (decks): decks.write. -/
namespace Go.Proofs.YtbkjminjkjnkpaaGreatDoor
open Go.RowKit Go.Lib

theorem alike_small {d : List Int} (h : d.length ≤ 40) : alikeN d ≤ 40 := Nat.le_trans (alike_le d) h
theorem bytes_two (n : Nat) (nm : ByteArray) : (decB n ++ (⟨#[32]⟩ : ByteArray) ++ nm ++ (⟨#[32]⟩ : ByteArray)).data.toList = joinB [((2, decB n), 0), ((1, nm), 0)] := by
  rw [joinB_two, bytes_app, bytes_app, bytes_app, List.append_assoc, List.append_assoc]
theorem joinB_nil : joinB [] = [] := rfl
theorem joinB_two_len {n : Nat} (h0 : 0 < n) (h : n ≤ 40) {nm : ByteArray} (hw : wordB nm = true) : (joinB [((2, decB n), 0), ((1, nm), 0)]).length ≤ 100 := by
  rw [joinB_two]
  have h1 := (dec_size h0 h).2
  have h2 := (word_size hw).2
  simp only [List.length_append, List.length_cons, List.length_nil]
  have e1 : (decB n).data.toList.length = (decB n).size := Array.length_toList
  have e2 : nm.data.toList.length = nm.size := Array.length_toList
  rw [e1, e2]
  omega

theorem w_later {B b : Nat} {bs : List UInt8} {w w' : World} (h : IsB B b bs w) (hb : Below w.heap.size w w') : IsB B b bs w'.drew := by
  rcases h with h | h
  · obtain ⟨hB, v, hbk, hown, hne⟩ := h
    have h' : Lib.BuilderAt 73 5 B b (.pointer none) (Lib.byteCells bs) w' := ⟨hB, v, (hb.block _ (Array.getElem?_eq_some_iff.1 hbk).1).trans hbk, ownsRow_later hown hb, hne⟩
    exact .inl h'.drew
  · obtain ⟨hB, v, hbk, hown, hne⟩ := h
    have h' : Lib.BuilderAt 73 5 B b (.pointer (some ⟨b, 0, none⟩)) (Lib.byteCells bs) w' := ⟨hB, v, (hb.block _ (Array.getElem?_eq_some_iff.1 hbk).1).trans hbk, ownsRow_later hown hb, hne⟩
    exact .inr h'.drew
set_option maxHeartbeats 4000000 in
set_option maxRecDepth 100000 in
theorem write_any (q p : Option Addr) (cd c b : Nat) (bs : List UInt8) (d : List Int) (ks : List KC) (w0 w : World) (hd : IntsAt w0 q d) (hK : KindsAt w0 p ks) (hm : ks.length ≤ 4611686018427387904) (hn : ∀ k ∈ ks, k.name.size ≤ maxLen)
    (hcd : d.length ≤ cd) (hcm : cd ≤ maxLen) (hw : Below w0.heap.size w0 w) (hb : IsB w0.heap.size b bs w) (ht : tellB (ks.map (·.name)) d = true) (hbs : bs.length ≤ 100000) :
    Calls Tryz.prog 23 #[.pointer (some ⟨b, 0, none⟩), .slice q d.length cd, .slice p ks.length c] w fun e w' => e = .returned (.tuple #[]) ∧ IsB w0.heap.size b (bs ++ joinB (deckK (ks.map (·.name)) d)) w' ∧ Below w0.heap.size w0 w' := by
  obtain ⟨hd40, hall⟩ := tell_each ht
  have h1 := writes_any w0.heap.size b bs ⟨#[100, 101, 99, 107, 32, 123, 32]⟩ w hb (by show _ + 7 ≤ _; omega) hw.size
  have H1 := Lib.hid h1
  have HW := Lib.hid hw
  have HK := Lib.hid hK
  have HN := Lib.hid hn
  have HD := Lib.hid hd
  have HALL := Lib.hid hall
  obtain ⟨BD, hBD⟩ : ∃ BD, BD = bs ++ joinB (deckK (ks.map (·.name)) d) := ⟨_, rfl⟩
  rw [← hBD]
  have HDK : Hid (∀ bb, bb = joinB (bodyK (ks.map (·.name)) d) → bs ++ ([100, 101, 99, 107, 32, 123, 32] ++ bb) ++ [125, 10] = BD) := fun bb h => by
    rw [hBD]
    unfold deckK
    rw [joinB_app, joinB_app, joinB_head, joinB_tail, h]
    simp only [List.append_assoc]
  clear h1 hw hb hK hn hd hall ht
  unfold maxLen at hcm
  clear hBD
  go_enter Tryz.func23, Tryz.ntmps23
  go_wp2_with fail
  refine H1.out.mono ?_
  rintro e w1 ⟨rfl, hb1, b1⟩
  have HB1 := Lib.hid hb1
  have HBW1 := Lib.hid (HW.out.trans b1)
  clear hb1 b1
  go_wp2_with fail
  go_loopw [1] (fun v1 wr => ∃ (q' : Option Addr) (c' k : Nat) (bb : List UInt8), v1 = .slice q' (d.length - k) c' ∧ k ≤ d.length ∧ d.length - k ≤ c' ∧ c' ≤ 2 ^ 63 - 1 ∧ IntsAt w0 q' (d.drop k) ∧ Below w0.heap.size w0 wr ∧ IsB w0.heap.size b (bs ++ ([100, 101, 99, 107, 32, 123, 32] ++ bb)) wr ∧ bb.length ≤ 100 * k ∧ bb ++ joinB (bodyK (ks.map (·.name)) (d.drop k)) = joinB (bodyK (ks.map (·.name)) d))
    (fun v1 _ => match v1 with | .slice _ n _ => n | _ => 0)
  case atStart => exact ⟨q, cd, 0, [], by simp, by omega, by omega, by omega, by simpa using HD.out, HBW1.out, by simpa using HB1.out, by simp, by simp⟩
  case round =>
    obtain ⟨q', c', k, bb, rfl, hk, hkc, hc63, hid, hbw, hbu, hbl, hbj⟩ := hrel
    have HI := Lib.hid hid
    have HBW := Lib.hid hbw
    have HBU := Lib.hid hbu
    have HBJ := Lib.hid hbj
    clear hid hbw hbu hbj
    by_cases hlt : k < d.length
    · obtain ⟨x, hxk⟩ : ∃ x, d[k]? = some x := ⟨d[k], List.getElem?_eq_getElem hlt⟩
      have hdr : d.drop k = x :: d.drop (k + 1) := by
        rw [List.drop_eq_getElem_cons hlt]
        congr 1
        exact (List.getElem?_eq_some_iff.1 hxk).2
      have hall := HALL.out x (List.mem_of_getElem? hxk)
      obtain ⟨hx0, hxl, hxw⟩ := hall
      obtain ⟨j, rfl⟩ : ∃ j : Nat, x = j := ⟨x.toNat, by omega⟩
      simp only [List.length_map] at hxl
      obtain ⟨kb, ko, hp, hcn, hbl2⟩ := kind_name HK.out j (by omega)
      subst hp
      obtain ⟨a, rfl, ha⟩ := HI.out 0 (j : Int) (by rw [hdr]; rfl)
      have e0 : a.add 0 = a := by simp [Addr.add]
      rw [e0] at ha
      have hab := World.block_lt_of_cell? _ _ ha
      have hxs : (d.drop k).length = d.length - k := by simp
      have hal := alike_any wr (some a) c' (d.drop k) (HI.out.below HBW.out) (by rw [hxs]; unfold maxLen; omega)
      have hcons := bodyK_cons (ks.map (·.name)) (j : Int) (d.drop (k + 1))
      rw [← hdr] at hcons
      have hm1 := alike_pos (xs := d.drop k) (by rw [hdr]; simp)
      have hm2 := alike_le (d.drop k)
      rw [hxs] at hal hm2
      obtain ⟨m, hmm⟩ : ∃ m, alikeN (d.drop k) = m := ⟨_, rfl⟩
      rw [hmm] at hal hcons hm1 hm2
      obtain ⟨nm, hnm⟩ : ∃ nm, nameI (ks.map (·.name)) (j : Int) = nm := ⟨_, rfl⟩
      rw [hnm] at hcons hcn hxw
      have hjl := joinB_two_len (n := m) (by omega) (by omega) hxw
      have hit := fun W => Tryz.strconv_Itoa_small m (by omega) W
      have HAL := Lib.hid hal
      have HCO := Lib.hid hcons
      have HCN := Lib.hid hcn
      have HA := Lib.hid ha
      have HIT := Lib.hid hit
      have HJL := Lib.hid hjl
      have HNW := Lib.hid hxw
      have hq : ((d.length - k : Nat) : Int) > 0 := by omega
      have hjj : (j : Int) < (ks.length : Int) := by omega
      have hj0 : (0 : Int) ≤ (j : Int) := by omega
      have hqq : 0 < d.length - k := by omega
      have hL1 : (Lib.decDigits m).length ≤ 2 := by have := (dec_size (n := m) (by omega) (by omega)).2; simpa [decB, ByteArray.size] using this
      have hL2 := (word_size hxw).2
      have hq17 : ¬ 9223372036854775807 < (Lib.decDigits m).length + 1 := by omega
      have hq25 : ¬ 9223372036854775807 < (Lib.decDigits m).length + 1 + nm.size := by omega
      have hq26 : ¬ 9223372036854775807 < (Lib.decDigits m).length + 1 + nm.size + 1 := by omega
      clear hal hcons hcn ha hit hjl hxw hmm hnm hdr hxs hxk e0 hx0 hxl
      go_wp2_with fail
      refine HAL.out.mono ?_
      rintro e w2 ⟨rfl, b2⟩
      have hbw2 : Below w0.heap.size w0 w2 := HBW.out.trans (b2.mono HBW.out.size)
      have HBW2 := Lib.hid hbw2
      have c1 := (hbw2.cell (p := a) hab).trans HA.out
      have c2 := (hbw2.cell (p := ⟨kb, ko + j * 6, none⟩) hbl2).trans HCN.out
      have HB2 := Lib.hid b2
      clear b2 hbw2
      go_wp2_with fail
      refine wp_region_still_tail 13 (by kernel_rfl) (by kernel_rfl) ?_
      simp only [List.take_succ_cons, List.take_zero, List.drop_succ_cons, List.drop_zero]
      repeat still_step
      still_call (HIT.out _)
      repeat still_step
      refine wpStill_nil ?_
      change wpList _ _ _ _ _ w2.drew
      have h3 := writes_any w0.heap.size b (bs ++ ([100, 101, 99, 107, 32, 123, 32] ++ bb)) (decB m ++ (⟨#[32]⟩ : ByteArray) ++ nm ++ (⟨#[32]⟩ : ByteArray)) w2.drew (w_later HBU.out HB2.out) (by
        have h4 := HJL.out
        rw [← bytes_two, Array.length_toList] at h4
        simp only [List.length_append, List.length_cons, List.length_nil]
        have h5 : (decB m ++ (⟨#[32]⟩ : ByteArray) ++ nm ++ (⟨#[32]⟩ : ByteArray)).size ≤ 100 := h4
        omega) HBW2.out.drew.size
      rw [bytes_two] at h3
      have H3 := Lib.hid h3
      clear h3
      go_wp2_with fail
      refine H3.out.mono ?_
      rintro e w4 ⟨rfl, hb4, b4⟩
      have HB4 := Lib.hid hb4
      have HBW4 := Lib.hid (HBW2.out.drew.trans b4)
      clear hb4 b4
      have hm3 : m ≤ d.length - k := hm2
      have hdk : d.length - k - m = d.length - (k + m) := by omega
      have hfin : bb ++ joinB [((2, decB m), 0), ((1, nm), 0)] ++ joinB (bodyK (ks.map (·.name)) (d.drop (k + m))) = joinB (bodyK (ks.map (·.name)) d) := by
        rw [← HBJ.out, HCO.out, List.append_assoc, ← joinB_app, List.drop_drop]
        rfl
      have HF := Lib.hid hfin
      have HDK2 := Lib.hid hdk
      have hbl3 : (bb ++ joinB [((2, decB m), 0), ((1, nm), 0)]).length ≤ 100 * (k + m) := by
        rw [List.length_append]; have := HJL.out; omega
      have HBL3 := Lib.hid hbl3
      have hbu4 : IsB w0.heap.size b (bs ++ ([100, 101, 99, 107, 32, 123, 32] ++ (bb ++ joinB [((2, decB m), 0), ((1, nm), 0)]))) w4 := by
        have := HB4.out
        simpa only [List.append_assoc] using this
      have HBU4 := Lib.hid hbu4
      clear hfin hdk hbl3 hbu4 hL1 hL2 hq17 hq25 hq26
      by_cases hcc : c' = m
      · have hcm2 : ¬ m < c' := by omega
        have hem : d.drop (k + m) = [] := List.drop_eq_nil_of_le (by omega)
        have HEM := Lib.hid hem
        clear hem
        go_wp2
        go_roundw
        case rel => exact ⟨some a, 0, k + m, bb ++ joinB [((2, decB m), 0), ((1, nm), 0)], by rw [HDK2.out], by omega, by omega, by omega, by rw [HEM.out]; exact IntsAt.nil _ _, HBW4.out, HBU4.out, HBL3.out, HF.out⟩
        case measure => simp only []; omega
      · have hcm2 : m < c' := by omega
        have hia := HI.out.drop m
        rw [List.drop_drop] at hia
        have HIA := Lib.hid hia
        clear hia
        go_wp2
        go_roundw
        case rel => exact ⟨some (a.add m), c' - m, k + m, bb ++ joinB [((2, decB m), 0), ((1, nm), 0)], by rw [HDK2.out], by omega, by omega, by omega, HIA.out, HBW4.out, HBU4.out, HBL3.out, HF.out⟩
        case measure => simp only []; omega
    · have hkn : k = d.length := by omega
      subst hkn
      have hbj := HBJ.out
      rw [List.drop_length, bodyK_nil, joinB_nil, List.append_nil] at hbj
      have h2 := writes_any w0.heap.size b _ ⟨#[125, 10]⟩ wr HBU.out (by simp only [List.length_append, List.length_cons, List.length_nil]; show _ + 2 ≤ _; omega) HBW.out.size
      have H2 := Lib.hid h2
      have HBJ2 := Lib.hid hbj
      clear h2 hbj
      have q0 : ((d.length - d.length : Nat) : Int) = 0 := by omega
      go_wp2_with fail
      refine H2.out.mono ?_
      rintro e w3 ⟨rfl, hb3, b3⟩
      have HB3 := Lib.hid hb3
      have HB4 := Lib.hid (HBW.out.trans b3)
      clear hb3 b3
      go_wp2
      go_end0
      have := HB3.out
      rw [show bs ++ ([100, 101, 99, 107, 32, 123, 32] ++ bb) ++ (⟨#[125, 10]⟩ : ByteArray).data.toList = BD from HDK.out bb HBJ2.out] at this
      exact ⟨rfl, this, HB4.out⟩
end Go.Proofs.YtbkjminjkjnkpaaGreatDoor
