/- scan.tokenAt, scan.broken: what they answer, for every text that is not empty. -/
import Derived.Test.YtanbkgifjlobgaaDoorWord
import Derived.Test.YtanbkgifjlobgaaDoorNumber
namespace Go.Proofs.YtanbkgifjlobgaaDoor
open Go.RowKit Go.Lib

theorem marks_all : ∀ b : Fin 256, decide (0 ≤ Lib.indexByte marksL (((b.val : Nat) : Int).toNat.toUInt8)) = markB b.val := by decide +kernel
theorem marks_one (b : Nat) (h : b < 256) : decide (0 ≤ Lib.indexByte marksL ((b : Int).toNat.toUInt8)) = markB b := marks_all ⟨b, h⟩

theorem ret_tok {a b c a' b' c' : Int} (h1 : a = a') (h2 : b = b') (h3 : c = c') : Ending.returned (.tuple #[.int .u8 a, .int .i64 b, .int .i64 c]) = .returned (.tuple #[.int .u8 a', .int .i64 b', .int .i64 c']) := by rw [h1, h2, h3]

set_option maxHeartbeats 2000000 in
set_option maxRecDepth 100000 in
theorem tokenAt_any (s : ByteArray) (w : World) (hs : s.size ≤ maxLen) (h0 : 0 < s.size) (hT : Tabs w) :
    Calls Tryd.prog 26 #[.string s] w fun e w' => e = .returned (.tuple #[.int .u8 (tokOf s).1, .int .i64 (tokOf s).2.1, .int .i64 (tokOf s).2.2]) ∧ Below w.heap.size w w' := by
  have hc := wordAt_any s w hs hT
  have hn : ∀ W, Calls Tryd.prog 35 #[.string s] W fun e w' => e = .returned (.tuple #[.int .i64 (numOf s).1, .int .i64 (numOf s).2]) ∧ Below W.heap.size W w' := fun W => numberAt_any s W hs
  have hf : ∀ W, Tabs W → Calls Tryd.prog 36 #[.string s, .int .i64 (numOf s).1, .int .i64 (numOf s).2] W fun e w' => e = .returned (.int .i64 (numFault s (numOf s).1 (numOf s).2)) ∧ Below W.heap.size W w' :=
    fun W h => numberFault_any s _ _ W hs (numOf_le s).1 h0 (numOf_le s).2 h
  have hm : ∀ W, Calls Tryd.prog 37 #[.string ⟨#[123, 125, 40, 41, 58, 59, 43, 42, 60, 61, 45]⟩, .int .u8 ((s[0]'h0).toNat)] W fun e w' => e = .returned (.int .i64 (Lib.indexByte marksL ((byteAt s 0 : Int).toNat.toUInt8))) ∧ w' = W := fun W => by
    have := Tryd.strings_IndexByte ⟨#[123, 125, 40, 41, 58, 59, 43, 42, 60, 61, 45]⟩ ((s[0]'h0).toNat) W
    rw [byteAt_get s 0 h0]
    exact this
  have hk := marks_one (byteAt s 0) (byteAt_lt s 0)
  have hspec : tokOf s = if 0 < (wordOf s).1 then (if 24 < (wordOf s).2 then (0, 0, 3) else (1, (wordOf s).1, 0))
      else if 0 < (numOf s).1 then (if numFault s (numOf s).1 (numOf s).2 = 0 then (2, (numOf s).1, 0) else (0, 0, numFault s (numOf s).1 (numOf s).2))
      else if markB (byteAt s 0) then (3, 1, 0) else (0, 0, 4) := rfl
  have hwl := wordOf_le s
  have hnl := numOf_le s
  generalize numFault s (numOf s).1 (numOf s).2 = nf at *
  generalize wordOf s = p at *
  generalize numOf s = q at *
  obtain ⟨a, b⟩ := p
  obtain ⟨c, d⟩ := q
  generalize Lib.indexByte marksL ((byteAt s 0 : Int).toNat.toUInt8) = ix at *
  generalize markB (byteAt s 0) = mk at *
  simp only [] at hc hn hf hspec hwl hnl
  have HC := Lib.hid hc
  have HN := Lib.hid hn
  have HF := Lib.hid hf
  have HM := Lib.hid hm
  have HS := Lib.hid hspec
  have HK := Lib.hid hk
  clear hc hn hf hm hspec hk
  unfold maxLen at hs
  by_cases c1 : 0 < a
  · by_cases c2 : 24 < b
    · have HR : Hid (tokOf s = (0, 0, 3)) := by rw [HS.out, if_pos c1, if_pos c2]; exact rfl
      go_enter Tryd.func26, Tryd.ntmps26
      go_wp2_with fail
      refine HC.out.mono ?_
      rintro e w1 ⟨rfl, b1⟩
      go_wp2
      go_ret3
      exact ⟨by rw [HR.out]; rfl, b1⟩
    · have HR : Hid (tokOf s = (1, a, 0)) := by rw [HS.out, if_pos c1, if_neg c2]; exact rfl
      go_enter Tryd.func26, Tryd.ntmps26
      go_wp2_with fail
      refine HC.out.mono ?_
      rintro e w1 ⟨rfl, b1⟩
      go_wp2
      go_ret3
      exact ⟨by rw [HR.out]; rfl, b1⟩
  · by_cases c3 : 0 < c
    · by_cases c4 : nf = 0
      · have HR : Hid (tokOf s = (2, c, 0)) := by rw [HS.out, if_neg c1, if_pos c3, if_pos c4]; exact rfl
        subst c4
        go_enter Tryd.func26, Tryd.ntmps26
        go_wp2_with fail
        refine HC.out.mono ?_
        rintro e w1 ⟨rfl, b1⟩
        go_wp2_with fail
        refine (HN.out w1).mono ?_
        rintro e w2 ⟨rfl, b2⟩
        go_wp2_with fail
        refine (HF.out w2 (hT.below (b1.trans (b2.mono b1.size)))).mono ?_
        rintro e w3 ⟨rfl, b3⟩
        go_wp2
        go_ret3
        exact ⟨by rw [HR.out]; rfl, (b1.trans (b2.mono b1.size)).trans (b3.mono (Nat.le_trans b1.size b2.size))⟩
      · have HR : Hid (tokOf s = (0, 0, nf)) := by rw [HS.out, if_neg c1, if_pos c3, if_neg c4]; exact rfl
        have q1 : ((nf : Int) != 0) = true := by simp; omega
        go_enter Tryd.func26, Tryd.ntmps26
        go_wp2_with fail
        refine HC.out.mono ?_
        rintro e w1 ⟨rfl, b1⟩
        go_wp2_with fail
        refine (HN.out w1).mono ?_
        rintro e w2 ⟨rfl, b2⟩
        go_wp2_with fail
        refine (HF.out w2 (hT.below (b1.trans (b2.mono b1.size)))).mono ?_
        rintro e w3 ⟨rfl, b3⟩
        go_wp2
        go_ret3
        exact ⟨by rw [HR.out]; rfl, (b1.trans (b2.mono b1.size)).trans (b3.mono (Nat.le_trans b1.size b2.size))⟩
    · cases mk with
      | true =>
        have HR : Hid (tokOf s = (3, 1, 0)) := by rw [HS.out, if_neg c1, if_neg c3]; exact rfl
        have hix : 0 ≤ ix := of_decide_eq_true HK.out
        go_enter Tryd.func26, Tryd.ntmps26
        go_wp2_with fail
        refine HC.out.mono ?_
        rintro e w1 ⟨rfl, b1⟩
        go_wp2_with fail
        refine (HN.out w1).mono ?_
        rintro e w2 ⟨rfl, b2⟩
        go_wp2_with fail
        refine (HM.out w2).mono ?_
        rintro e w3 ⟨rfl, rfl⟩
        go_wp2
        go_ret3
        exact ⟨by rw [HR.out]; rfl, b1.trans (b2.mono b1.size)⟩
      | false =>
        have HR : Hid (tokOf s = (0, 0, 4)) := by rw [HS.out, if_neg c1, if_neg c3]; exact rfl
        have hix : ¬ 0 ≤ ix := of_decide_eq_false HK.out
        go_enter Tryd.func26, Tryd.ntmps26
        go_wp2_with fail
        refine HC.out.mono ?_
        rintro e w1 ⟨rfl, b1⟩
        go_wp2_with fail
        refine (HN.out w1).mono ?_
        rintro e w2 ⟨rfl, b2⟩
        go_wp2_with fail
        refine (HM.out w2).mono ?_
        rintro e w3 ⟨rfl, rfl⟩
        go_wp2
        go_ret3
        exact ⟨by rw [HR.out]; rfl, b1.trans (b2.mono b1.size)⟩

/-- Bytes at the beginning that are no UTF-8, beside the rune that the decoder tells of them. -/
def brokenB (s : ByteArray) (r : Int) : Bool := (r == 65533) && !(Lib.hasPrefix s.data.toList [239, 191, 189])

set_option maxHeartbeats 1000000 in
theorem broken_any (s : ByteArray) (r : Int) (w : World) :
    Calls Tryd.prog 24 #[.string s, .int .i32 r] w fun e w' => e = .returned (.bool (brokenB s r)) ∧ w = w' := by
  have hp : ∀ W, Calls Tryd.prog 34 #[.string s, .string ⟨#[239, 191, 189]⟩] W fun e w' => e = .returned (.bool (Lib.hasPrefix s.data.toList [239, 191, 189])) ∧ w' = W := fun W => Tryd.strings_HasPrefix s ⟨#[239, 191, 189]⟩ W
  have HP := Lib.hid hp
  clear hp
  by_cases h : r = 65533
  · have HR : Hid (brokenB s r = !(Lib.hasPrefix s.data.toList [239, 191, 189])) := by rw [h]; exact rfl
    subst h
    go_enter Tryd.func24, Tryd.ntmps24
    go_wp2_with fail
    refine (HP.out w).mono ?_
    rintro e w1 ⟨rfl, rfl⟩
    go_wp2
    go_ret
    exact ⟨ret_bool (by rw [HR.out]), rfl⟩
  · have q : (r == 65533) = false := by simpa using h
    have HR : Hid (brokenB s r = false) := by unfold brokenB; rw [q]; exact rfl
    clear h
    go_enter Tryd.func24, Tryd.ntmps24
    go_wp2
    go_ret
    exact ⟨ret_bool (by rw [HR.out]), rfl⟩
end Go.Proofs.YtanbkgifjlobgaaDoor
