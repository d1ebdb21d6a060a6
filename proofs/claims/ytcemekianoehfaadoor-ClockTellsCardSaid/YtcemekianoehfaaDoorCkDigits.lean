/- joustref28.digits: walked. (Made by gen/mkck.py.) -/
import Derived.Test.YtcemekianoehfaaDoorCkFns
import Derived.Lib.ItoaNum
import Derived.Lib.ItoaMem
import Derived.Lib.ItoaLen
namespace Go.Proofs.YtcemekianoehfaaDoor
open Go.RowKit Go.Lib Go.Sort


/-- A number's digits. -/
def decS (n : Nat) : ByteArray := ⟨(decDigits n).toArray⟩
theorem dec_lt {n : Nat} (h : n < 10) : decS n = ⟨#[UInt8.ofNat (48 + n)]⟩ := by unfold decS; rw [decDigits_one h]
theorem dec_ge {n : Nat} (h : ¬ n < 10) : decS n = decS (n / 10) ++ ⟨#[UInt8.ofNat (48 + n % 10)]⟩ := by
  unfold decS
  rw [decDigits, dif_neg h]
  apply ByteArray.ext
  rw [ByteArray.data_append]
  simp
theorem dec_size {n : Nat} (h : n ≤ 9223372036854775807) : (decS n).size ≤ 21 := by
  have := itoa_length_le (n : Int) (by omega) (by omega)
  rw [itoa_nonneg] at this
  show (decDigits n).toArray.size ≤ 21
  simpa using this
theorem dig_piece {k : Nat} (h : k < 10) : (⟨#[48, 49, 50, 51, 52, 53, 54, 55, 56, 57]⟩ : ByteArray).extract k (k + 1) = ⟨#[UInt8.ofNat (48 + k)]⟩ := by
  have : ∀ k : Fin 10, (⟨#[48, 49, 50, 51, 52, 53, 54, 55, 56, 57]⟩ : ByteArray).extract k.1 (k.1 + 1) = ⟨#[UInt8.ofNat (48 + k.1)]⟩ := by decide +kernel
  exact this ⟨k, h⟩
set_option maxHeartbeats 4000000 in
theorem rdigits_any (d : Nat) : ∀ (n : Nat) (w : World), n < d → n ≤ 1073741824 → Calls Tryd.prog 24 #[.int .i64 (n : Int)] w fun e w' => e = .returned (.string (decS n)) ∧ w' = w := by
  induction d with
  | zero => intro n w h _; omega
  | succ d ih =>
    intro n w hn hb
    have hp := Lib.hid (dig_piece (k := n % 10) (by omega))
    by_cases h : n < 10
    · have HD := Lib.hid (dec_lt h)
      have HM := Lib.hid (Nat.mod_eq_of_lt h)
      go_enter Tryd.func24, Tryd.ntmps24
      go_wp2_with fail
      go_ret
      refine ⟨?_, rfl⟩
      rw [HD.out]
      have := hp.out
      rw [HM.out] at this ⊢
      rw [← this]
      rfl
    · have HD := Lib.hid (dec_ge h)
      have ih' := fun w => ih (n / 10) w (by omega) (by omega)
      rw [show ((n / 10 : Nat) : Int) = (n : Int) / 10 by omega] at ih'
      have IH := Lib.hid ih'
      clear ih ih'
      have hz := dec_size (n := n / 10) (by omega)
      go_enter Tryd.func24, Tryd.ntmps24
      go_wp2_with (go_at_call 24; refine (IH.out _).mono ?_; rintro e w' ⟨rfl, rfl⟩)
      go_ret
      refine ⟨?_, rfl⟩
      rw [HD.out, ← hp.out]
      rfl
end Go.Proofs.YtcemekianoehfaaDoor
