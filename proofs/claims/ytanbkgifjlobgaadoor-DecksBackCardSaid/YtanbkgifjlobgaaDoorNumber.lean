/- scan.numberAt, scan.numberFault: what they answer, for every text. -/
import Derived.Test.YtanbkgifjlobgaaDoorNumMath
import Derived.BigCall
namespace Go.Proofs.YtanbkgifjlobgaaDoor
open Go.RowKit Go.Lib

theorem ret_two' {a b c d : Int} (h1 : a = c) (h2 : b = d) : Ending.returned (.tuple #[.int .i64 a, .int .i64 b]) = .returned (.tuple #[.int .i64 c, .int .i64 d]) := by rw [h1, h2]

set_option maxHeartbeats 2000000 in
set_option maxRecDepth 100000 in
theorem numberAt_any (s : ByteArray) (w : World) (hs : s.size ≤ maxLen) :
    Calls Tryd.prog 35 #[.string s] w fun e w' => e = .returned (.tuple #[.int .i64 (numOf s).1, .int .i64 (numOf s).2]) ∧ Below w.heap.size w w' := by
  unfold maxLen at hs
  go_enter Tryd.func35, Tryd.ntmps35
  go_wp2
  go_loopw [2, 3] (fun vs vv wr => ∃ (pos fuel v : Nat), vs = .int .i64 pos ∧ vv = .int .i64 v ∧ wr.heap[w.heap.size]? = some (.stringIter s pos) ∧ Below w.heap.size w wr ∧
      numGo s fuel pos v = numOf s ∧ s.size ≤ pos + fuel ∧ pos ≤ s.size ∧ v ≤ 100000) (fun _ _ wr => s.size - wr.iterPos w.heap.size)
  case atStart =>
    exact ⟨0, s.size, 0, rfl, rfl, World.iter_heap w s 0, (Below.refl _ w).alloc (Nat.le_refl _) _, rfl, by omega, by omega, by omega⟩
  case round =>
    obtain ⟨pos, fuel, v, rfl, rfl, hit, hbw, hgo, hfu, hpos, hv⟩ := hrel
    have hsz : w.heap.size < wr.heap.size := (Array.getElem?_eq_some_iff.1 hit).1
    have hmeas := iterPos_of hit
    have HM := Lib.hid hmeas
    clear hmeas
    by_cases hp : pos < s.size
    · have hnx : ∀ ty, (Instr.next (.pointer (some ⟨w.heap.size, 0, none⟩)) true ty).run Tryd.prog wr = _ := fun ty => Lib.run_next_any_at wr w.heap.size s pos ty hit hp
      have hd1 := decode_le s pos
      have hit2 := Lib.iterAt_heap wr w.heap.size s pos (pos + (Utf8.decode s pos).2) hit
      have hbw2 := Lib.below_iterAt hbw (k := w.heap.size) (by omega) s (pos + (Utf8.decode s pos).2)
      obtain ⟨f, rfl⟩ : ∃ f, fuel = f + 1 := ⟨fuel - 1, by omega⟩
      by_cases hd : digB (Utf8.decode s pos).1 = true
      · have hd2 := (digB_iff _).1 hd
        have hdec := decode_byte s pos hp (by omega)
        have hb : digB (byteAt s pos) = true := by rw [← digB_decode s pos hp]; exact hd
        have HG : Hid (numGo s f (pos + 1) (addDigit v (byteAt s pos)) = numOf s) := by rw [← numGo_more s f pos v hp hb]; exact hgo
        have ha := addDigit_le v (byteAt s pos)
        have HA : Hid (addDigit v (byteAt s pos) = min (10 * v + (byteAt s pos - 48)) 100000) := rfl
        rw [hdec] at hit2 hbw2 hnx hd hd2
        clear hb hgo hdec hd1 hit
        generalize addDigit v (byteAt s pos) = q at *
        generalize byteAt s pos = r at *
        have Hit := Lib.hid hit2
        clear hit2
        simp only [] at hd2
        have hr1 : (48 : Int) ≤ (r : Int) := by omega
        have hr2 : (r : Int) ≤ 57 := by omega
        clear hd2
        go_wp2_with (go_at_call 46; refine (digit_yes _ _ hd).mono ?_; rintro e w' ⟨rfl, rfl⟩)
        go_roundw
        case rel => exact ⟨pos + 1, f, q, by go_num, by rw [HA.out]; exact congrArg (Value.int .i64) (by omega), Hit.out, hbw2, HG.out, by omega, by omega, by omega⟩
        case measure => rw [HM.out, iterPos_of Hit.out]; omega
      · have hd' : digB (Utf8.decode s pos).1 = false := by simpa using hd
        have hb : digB (byteAt s pos) = false := by rw [← digB_decode s pos hp]; exact hd'
        have HG : Hid ((pos, v) = numOf s) := by rw [← hgo, numGo_stop _ _ _ _ hb]; exact rfl
        clear hgo hb hit
        generalize (Utf8.decode s pos).1 = r at *
        generalize (Utf8.decode s pos).2 = n at *
        clear hit2
        go_wp2_with (go_at_call 46; refine (digit_no _ _ hd').mono ?_; rintro e w' ⟨rfl, rfl⟩)
        go_ret2
        exact ⟨by rw [← HG.out]; rfl, hbw2⟩
    · have hnx : ∀ ty, (Instr.next (.pointer (some ⟨w.heap.size, 0, none⟩)) true ty).run Tryd.prog wr = _ := fun ty => Lib.run_next_end_at wr w.heap.size s pos ty hit hp
      have HG : Hid ((pos, v) = numOf s) := by rw [← hgo, numGo_end _ _ _ _ hp]; exact rfl
      clear hgo
      go_wp2
      go_ret2
      exact ⟨by rw [← HG.out]; rfl, hbw⟩

theorem ret_int' {k : IntKind} {a b : Int} (h : a = b) : Ending.returned (.int k a) = .returned (.int k b) := by rw [h]

set_option maxHeartbeats 2000000 in
theorem numberFault_any (s : ByteArray) (n v : Nat) (w : World) (hs : s.size ≤ maxLen) (hn : n ≤ s.size) (h0 : 0 < s.size) (hv : v ≤ 100000) (hT : Tabs w) :
    Calls Tryd.prog 36 #[.string s, .int .i64 n, .int .i64 v] w fun e w' => e = .returned (.int .i64 (numFault s n v)) ∧ Below w.heap.size w w' := by
  have hc := decode_any (s.extract n s.size) w hT
  have hbr := behindR_le s n
  have hbd : (decodeGo (s.extract n s.size)).1 = behindR s n := rfl
  rw [hbd] at hc
  have hb0 := byteAt_lt s 0
  have hb1 : ((s[0]'h0).toNat : Int) = (byteAt s 0 : Int) := by rw [byteAt_get s 0 h0]
  have hnf : numFault s n v = if 99999 < v then 3 else if byteAt s 0 = 48 ∧ 1 < n then 5 else if letB (behindR s n) then 5 else 0 := rfl
  generalize (decodeGo (s.extract n s.size)).2 = m at *
  generalize behindR s n = r at *
  generalize byteAt s 0 = b at *
  have HC := Lib.hid hc
  have HF := Lib.hid hnf
  have HB := Lib.hid hb1
  clear hc hnf hb1 hbd
  unfold maxLen at hs
  by_cases c1 : 99999 < v
  · have HR : Hid (numFault s n v = 3) := by rw [HF.out, if_pos c1]; exact rfl
    go_enter Tryd.func36, Tryd.ntmps36
    go_wp2_with fail
    refine HC.out.mono ?_
    rintro e w1 ⟨rfl, b1⟩
    go_wp2
    go_ret
    exact ⟨ret_int' (by rw [HR.out]; rfl), b1⟩
  · by_cases c2 : b = 48
    · have hq : ((s[0]'h0).toNat : Int) = 48 := by rw [HB.out]; omega
      by_cases c3 : 1 < n
      · have HR : Hid (numFault s n v = 5) := by rw [HF.out, if_neg c1, if_pos ⟨c2, c3⟩]; exact rfl
        clear c2
        go_enter Tryd.func36, Tryd.ntmps36
        go_wp2_with fail
        refine HC.out.mono ?_
        rintro e w1 ⟨rfl, b1⟩
        go_wp2
        go_ret
        exact ⟨ret_int' (by rw [HR.out]; rfl), b1⟩
      · cases hl : letB r with
        | true =>
          have HR : Hid (numFault s n v = 5) := by rw [HF.out, if_neg c1, if_neg (by omega), hl]; exact rfl
          clear c2
          go_enter Tryd.func36, Tryd.ntmps36
          go_wp2_with fail
          refine HC.out.mono ?_
          rintro e w1 ⟨rfl, b1⟩
          have hT1 := hT.below b1
          go_wp2_with (go_at_call 45; refine (isLetter_yes _ _ (by omega) (by omega) hT1 hl).mono ?_; rintro e w2 ⟨rfl, b2⟩)
          go_ret
          exact ⟨ret_int' (by rw [HR.out]; rfl), b1.trans (b2.mono b1.size)⟩
        | false =>
          have HR : Hid (numFault s n v = 0) := by rw [HF.out, if_neg c1, if_neg (by omega), hl]; exact rfl
          clear c2
          go_enter Tryd.func36, Tryd.ntmps36
          go_wp2_with fail
          refine HC.out.mono ?_
          rintro e w1 ⟨rfl, b1⟩
          have hT1 := hT.below b1
          go_wp2_with (go_at_call 45; refine (isLetter_no _ _ (by omega) (by omega) hT1 hl).mono ?_; rintro e w2 ⟨rfl, b2⟩)
          go_ret
          exact ⟨ret_int' (by rw [HR.out]; rfl), b1.trans (b2.mono b1.size)⟩
    · have hq : ¬ ((s[0]'h0).toNat : Int) = 48 := by rw [HB.out]; omega
      cases hl : letB r with
      | true =>
        have HR : Hid (numFault s n v = 5) := by rw [HF.out, if_neg c1, if_neg (by omega), hl]; exact rfl
        clear c2
        go_enter Tryd.func36, Tryd.ntmps36
        go_wp2_with fail
        refine HC.out.mono ?_
        rintro e w1 ⟨rfl, b1⟩
        have hT1 := hT.below b1
        go_wp2_with (go_at_call 45; refine (isLetter_yes _ _ (by omega) (by omega) hT1 hl).mono ?_; rintro e w2 ⟨rfl, b2⟩)
        go_ret
        exact ⟨ret_int' (by rw [HR.out]; rfl), b1.trans (b2.mono b1.size)⟩
      | false =>
        have HR : Hid (numFault s n v = 0) := by rw [HF.out, if_neg c1, if_neg (by omega), hl]; exact rfl
        clear c2
        go_enter Tryd.func36, Tryd.ntmps36
        go_wp2_with fail
        refine HC.out.mono ?_
        rintro e w1 ⟨rfl, b1⟩
        have hT1 := hT.below b1
        go_wp2_with (go_at_call 45; refine (isLetter_no _ _ (by omega) (by omega) hT1 hl).mono ?_; rintro e w2 ⟨rfl, b2⟩)
        go_ret
        exact ⟨ret_int' (by rw [HR.out]; rfl), b1.trans (b2.mono b1.size)⟩
end Go.Proofs.YtanbkgifjlobgaaDoor
