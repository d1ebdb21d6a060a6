/- joustref01, the small functions: word, number, great, mark, remark, Where, Word. -/
import Derived.Test.YtaffgdgdojdoiaaGreatDoorTokenAt
import Derived.Test.YtaffgdgdojdoiaaGreatDoorWhereMath
import Derived.Lib.RuneCountTail
namespace Go.Proofs.YtaffgdgdojdoiaaGreatDoor
open Go.RowKit Go.Lib

set_option maxHeartbeats 400000 in
theorem rdigit_any (r : Int) (w : World) :
    Calls Tryz.prog 85 #[.int .i32 r] w fun e w' => e = .returned (.bool (digB r)) ∧ w = w' := by
  by_cases h1 : (48 : Int) ≤ r <;> by_cases h2 : r ≤ 57
  all_goals
    go_enter Tryz.func85, Tryz.ntmps85
    go_wp2
    go_ret
    exact ⟨ret_bool (by simp [digB, h1, h2]), rfl⟩

def innerB (r : Int) : Bool := letB r || digB r
set_option maxHeartbeats 400000 in
theorem inner_any (r : Int) (w : World) (hlo : -2147483648 ≤ r) (hhi : r ≤ 2147483647) (hT : Tabs w) :
    Calls Tryz.prog 106 #[.int .i32 r] w fun e w' => e = .returned (.bool (innerB r)) ∧ Below w.heap.size w w' := by
  cases hl : letB r with
  | true =>
    have hi : Hid (innerB r = true) := by simp [innerB, hl, Hid]
    go_enter Tryz.func106, Tryz.ntmps106
    go_wp2_with fail
    refine (isLetter_yes _ _ hlo hhi hT hl).mono ?_
    rintro e w1 ⟨rfl, b1⟩
    go_wp2
    go_ret
    exact ⟨ret_bool (by rw [hi.out]), b1⟩
  | false =>
    have hi : Hid (innerB r = digB r) := by simp [innerB, hl, Hid]
    go_enter Tryz.func106, Tryz.ntmps106
    go_wp2_with fail
    refine (isLetter_no _ _ hlo hhi hT hl).mono ?_
    rintro e w1 ⟨rfl, b1⟩
    go_wp2_with fail
    refine (rdigit_any _ _).mono ?_
    rintro e w2 ⟨rfl, rfl⟩
    go_wp2
    go_ret
    exact ⟨ret_bool (by rw [hi.out]), b1⟩

theorem inner_eq (r : Int) (b : Bool) (h : innerB r = b) (w : World) (hlo : -2147483648 ≤ r) (hhi : r ≤ 2147483647) (hT : Tabs w) :
    Calls Tryz.prog 106 #[.int .i32 r] w fun e w' => e = .returned (.bool b) ∧ Below w.heap.size w w' := by
  subst h; exact inner_any r w hlo hhi hT

/-- The decoder, at a place of a text. -/
theorem decode_at_any (s : ByteArray) (pos : Nat) (h : pos < s.size) (w : World) (hT : Tabs w) :
    Calls Tryz.prog 81 #[.string (s.extract pos s.size)] w fun e w' => e = .returned (.tuple #[.int .i32 (Utf8.decode s pos).1, .int .i64 (Utf8.decode s pos).2]) ∧ Below w.heap.size w w' := by
  have hd : decodeGo (s.extract pos s.size) = Utf8.decode s pos := by
    unfold decodeGo
    rw [if_neg (by simp; omega)]
    have := tail_decode s pos 0
    simpa using this
  have := decode_any (s.extract pos s.size) w hT
  rw [hd] at this
  exact this

set_option maxHeartbeats 4000000 in
set_option maxRecDepth 100000 in
theorem rword_any (s : ByteArray) (w : World) (hs : s.size ≤ maxLen) (hT : Tabs w) :
    Calls Tryz.prog 84 #[.string s] w fun e w' => e = .returned (.tuple #[.int .i64 (wordOf s).1, .int .i64 (wordOf s).2]) ∧ Below w.heap.size w w' := by
  unfold maxLen at hs
  go_enter Tryz.func84, Tryz.ntmps84
  go_wp2
  go_loopw [4, 5, 6, 7] (fun vp vn vs vr wr => ∃ (pos fuel seen size runes : Nat), vp = .int .i64 pos ∧ vn = .int .i64 seen ∧ vs = .int .i64 size ∧ vr = .int .i64 runes ∧ Below w.heap.size w wr ∧
      wordGo s fuel pos seen size runes = wordOf s ∧ s.size ≤ pos + fuel ∧ pos ≤ s.size ∧ seen ≤ pos ∧ (seen = 0 ↔ pos = 0)) (fun vp _ _ _ _ => s.size - (RowKit.intOf vp).toNat)
  case atStart =>
    exact ⟨0, s.size, 0, 0, 0, rfl, rfl, rfl, rfl, Below.refl _ _, rfl, by omega, by omega, by omega, by omega⟩
  case round =>
    obtain ⟨pos, fuel, seen, size, runes, rfl, rfl, rfl, rfl, hbw, hgo, hfu, hpos, hsn, h00⟩ := hrel
    by_cases hp : pos < s.size
    · have hwd := width_pos s pos hp
      have hwf := decode_fits s pos hp
      have hd1 := decode_le s pos
      have hT2 := hT.below hbw
      have hdec := decode_at_any s pos hp wr hT2
      obtain ⟨f, rfl⟩ : ∃ f, fuel = f + 1 := ⟨fuel - 1, by omega⟩
      have hstop : wStop (pos == 0) (Utf8.decode s pos).1 = true → (size, runes) = wordOf s := fun h => by rw [← hgo, wordGo_stop _ _ _ _ _ _ h]
      have hmark : wStop (pos == 0) (Utf8.decode s pos).1 = false → (Utf8.decode s pos).1 = 45 → wordGo s f (pos + (Utf8.decode s pos).2) (seen + 1) size runes = wordOf s := fun h h2 => by rw [← hgo, wordGo_mark _ _ _ _ _ _ hp h h2]
      have hmore : wStop (pos == 0) (Utf8.decode s pos).1 = false → (Utf8.decode s pos).1 ≠ 45 → wordGo s f (pos + (Utf8.decode s pos).2) (seen + 1) (pos + (Utf8.decode s pos).2) (seen + 1) = wordOf s := fun h h2 => by rw [← hgo, wordGo_more _ _ _ _ _ _ hp h h2]
      clear hgo
      generalize (Utf8.decode s pos).1 = r at *
      generalize (Utf8.decode s pos).2 = n at *
      have HD := Lib.hid hdec
      have Hstop := Lib.hid hstop
      have Hmark := Lib.hid hmark
      have Hmore := Lib.hid hmore
      have H00 := Lib.hid h00
      clear hdec hstop hmark hmore h00
      have hI := fun (b : Bool) (h : innerB r = b) W hW => inner_eq (r : Int) b h W (by omega) (by omega) hW
      have HI := Lib.hid hI
      clear hI
      by_cases h65 : r = 65533
      · have hl : letB r = false := by rw [h65]; exact letB_err
        have hws : wStop (pos == 0) r = true := by rw [h65]; simp [wStop, letB_err, digB]
        have HG := Lib.hid (Hstop.out hws)
        have hin : innerB r = false := by rw [h65]; simp [innerB, letB_err, digB]
        have q1 : ((r : Int) == 65533) = true := by simp; omega
        have q9 : ((r : Int) != 45) = true := by simp; omega
        clear hws h65
        by_cases hn : n = 1
        · have q2 : ((n : Int) == 1) = true := by simp; omega
          clear hn
          go_wp2_with fail
          refine HD.out.mono ?_
          rintro e w1 ⟨rfl, b1⟩
          have T1 := hT2.below b1
          go_wp2
          go_ret2
          exact ⟨by rw [← HG.out]; rfl, (hbw.trans (b1.mono (by have := hbw.size; have := b1.size; omega)))⟩
        · have q2 : ((n : Int) == 1) = false := by simp; omega
          by_cases h0 : seen = 0
          · have q3 : ((seen : Int) == 0) = true := by simp; omega
            clear h0
            go_wp2_with fail
            refine HD.out.mono ?_
            rintro e w1 ⟨rfl, b1⟩
            have T1 := hT2.below b1
            go_wp2_with fail
            refine (isLetter_no _ _ (by omega) (by omega) T1 hl).mono ?_
            rintro e w2 ⟨rfl, b2⟩
            have T2 := T1.below b2
            go_wp2
            go_ret2
            exact ⟨by rw [← HG.out]; rfl, ((hbw.trans (b1.mono (by have := hbw.size; have := b1.size; have := b2.size; omega))).trans (b2.mono (by have := hbw.size; have := b1.size; have := b2.size; omega)))⟩
          · have q3 : ((seen : Int) == 0) = false := by simp; omega
            clear h0
            go_wp2_with fail
            refine HD.out.mono ?_
            rintro e w1 ⟨rfl, b1⟩
            have T1 := hT2.below b1
            go_wp2_with fail
            refine (HI.out false hin _ T1).mono ?_
            rintro e w3 ⟨rfl, b3⟩
            go_wp2
            go_ret2
            exact ⟨by rw [← HG.out]; rfl, ((hbw.trans (b1.mono (by have := hbw.size; have := b1.size; have := b3.size; omega))).trans (b3.mono (by have := hbw.size; have := b1.size; have := b3.size; omega)))⟩
      · have q1 : ((r : Int) == 65533) = false := by simp; omega
        clear h65
        by_cases h0 : seen = 0
        · have hpz : pos = 0 := H00.out.1 h0
          have q3 : ((seen : Int) == 0) = true := by simp; omega
          cases hl : letB r with
          | true =>
            have h45 : r ≠ 45 := fun e => by subst e; exact absurd hl (by rw [show letB ((45 : Nat) : Int) = false from letB_mark]; simp)
            have hws : wStop (pos == 0) r = false := by simp [wStop, hl]
            have HG := Lib.hid (Hmore.out hws h45)
            have hin : innerB r = true := by simp [innerB, hl]
            have q9 : ((r : Int) != 45) = true := by simp; omega
            clear hws h45 hpz h0
            go_wp2_with fail
            refine HD.out.mono ?_
            rintro e w1 ⟨rfl, b1⟩
            have T1 := hT2.below b1
            go_wp2_with fail
            refine (isLetter_yes _ _ (by omega) (by omega) T1 hl).mono ?_
            rintro e w2 ⟨rfl, b2⟩
            have T2 := T1.below b2
            go_wp2_with fail
            refine (HI.out true hin _ T2).mono ?_
            rintro e w3 ⟨rfl, b3⟩
            go_wp2
            go_roundw
            case rel => exact ⟨pos + n, f, seen + 1, pos + n, seen + 1, by go_num, by go_num, by go_num, by go_num, (((hbw.trans (b1.mono (by have := hbw.size; have := b1.size; have := b2.size; have := b3.size; omega))).trans (b2.mono (by have := hbw.size; have := b1.size; have := b2.size; have := b3.size; omega))).trans (b3.mono (by have := hbw.size; have := b1.size; have := b2.size; have := b3.size; omega))), HG.out, by omega, by omega, by omega, by omega⟩
            case measure => simp [RowKit.intOf]; omega
          | false =>
            have hws : wStop (pos == 0) r = true := by simp [wStop, hl, hpz]
            have HG := Lib.hid (Hstop.out hws)
            clear hws hpz h0
            go_wp2_with fail
            refine HD.out.mono ?_
            rintro e w1 ⟨rfl, b1⟩
            have T1 := hT2.below b1
            go_wp2_with fail
            refine (isLetter_no _ _ (by omega) (by omega) T1 hl).mono ?_
            rintro e w2 ⟨rfl, b2⟩
            have T2 := T1.below b2
            go_wp2
            go_ret2
            exact ⟨by rw [← HG.out]; rfl, ((hbw.trans (b1.mono (by have := hbw.size; have := b1.size; have := b2.size; omega))).trans (b2.mono (by have := hbw.size; have := b1.size; have := b2.size; omega)))⟩
        · have hpz : ¬ pos = 0 := fun e => h0 (H00.out.2 e)
          have q3 : ((seen : Int) == 0) = false := by simp; omega
          by_cases hin : innerB r = true
          · have h45 : r ≠ 45 := fun e => by subst e; exact absurd hin (by simp [innerB, letB_mark, digB])
            have hws : wStop (pos == 0) r = false := by
              have hi := hin
              simp only [innerB, Bool.or_eq_true] at hi
              rcases hi with hi | hi <;> simp [wStop, hi, hpz]
            have HG := Lib.hid (Hmore.out hws h45)
            have q9 : ((r : Int) != 45) = true := by simp; omega
            clear hws h45 hpz h0
            go_wp2_with fail
            refine HD.out.mono ?_
            rintro e w1 ⟨rfl, b1⟩
            have T1 := hT2.below b1
            go_wp2_with fail
            refine (HI.out true hin _ T1).mono ?_
            rintro e w3 ⟨rfl, b3⟩
            go_wp2
            go_roundw
            case rel => exact ⟨pos + n, f, seen + 1, pos + n, seen + 1, by go_num, by go_num, by go_num, by go_num, ((hbw.trans (b1.mono (by have := hbw.size; have := b1.size; have := b3.size; omega))).trans (b3.mono (by have := hbw.size; have := b1.size; have := b3.size; omega))), HG.out, by omega, by omega, by omega, by omega⟩
            case measure => simp [RowKit.intOf]; omega
          · have hin : innerB r = false := by simpa using hin
            have hl : letB r = false := by simp only [innerB, Bool.or_eq_false_iff] at hin; exact hin.1
            have hd : digB r = false := by simp only [innerB, Bool.or_eq_false_iff] at hin; exact hin.2
            by_cases h45 : r = 45
            · have hws : wStop (pos == 0) r = false := by simp [wStop, hpz, h45]
              have HG := Lib.hid (Hmark.out hws h45)
              have q9 : ((r : Int) != 45) = false := by simp; omega
              clear hws h45 hpz h0
              go_wp2_with fail
              refine HD.out.mono ?_
              rintro e w1 ⟨rfl, b1⟩
              have T1 := hT2.below b1
              go_wp2_with fail
              refine (HI.out false hin _ T1).mono ?_
              rintro e w3 ⟨rfl, b3⟩
              go_wp2
              go_roundw
              case rel => exact ⟨pos + n, f, seen + 1, size, runes, by go_num, by go_num, by go_num, by go_num, ((hbw.trans (b1.mono (by have := hbw.size; have := b1.size; have := b3.size; omega))).trans (b3.mono (by have := hbw.size; have := b1.size; have := b3.size; omega))), HG.out, by omega, by omega, by omega, by omega⟩
              case measure => simp [RowKit.intOf]; omega
            · have hws : wStop (pos == 0) r = true := by simp [wStop, hl, hd, show ((r : Int) == 45) = false from by simp; omega]
              have HG := Lib.hid (Hstop.out hws)
              have q9 : ((r : Int) != 45) = true := by simp; omega
              clear hws h45 hpz h0
              go_wp2_with fail
              refine HD.out.mono ?_
              rintro e w1 ⟨rfl, b1⟩
              have T1 := hT2.below b1
              go_wp2_with fail
              refine (HI.out false hin _ T1).mono ?_
              rintro e w3 ⟨rfl, b3⟩
              go_wp2
              go_ret2
              exact ⟨by rw [← HG.out]; rfl, ((hbw.trans (b1.mono (by have := hbw.size; have := b1.size; have := b3.size; omega))).trans (b3.mono (by have := hbw.size; have := b1.size; have := b3.size; omega)))⟩
    · have HG : Hid ((size, runes) = wordOf s) := by rw [← hgo, wordGo_end _ _ _ _ _ _ hp]; exact rfl
      clear hgo
      go_wp2
      go_ret2
      exact ⟨by rw [← HG.out]; rfl, hbw⟩
end Go.Proofs.YtaffgdgdojdoiaaGreatDoor
