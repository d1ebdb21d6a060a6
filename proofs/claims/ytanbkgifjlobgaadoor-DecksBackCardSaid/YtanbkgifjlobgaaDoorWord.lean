/- scan.wordAt and scan.Word: what they answer, for every text. -/
import Derived.Test.YtanbkgifjlobgaaDoorScanMath
import Derived.BigCall
namespace Go.Proofs.YtanbkgifjlobgaaDoor
open Go.RowKit Go.Lib

theorem ret_two {a b c d : Int} (h1 : a = c) (h2 : b = d) : Ending.returned (.tuple #[.int .i64 a, .int .i64 b]) = .returned (.tuple #[.int .i64 c, .int .i64 d]) := by rw [h1, h2]
theorem measure_iter {w : World} {k : Nat} {s : ByteArray} {p : Nat} (h : w.heap[k]? = some (.stringIter s p)) : w.iterPos k = p := iterPos_of h

set_option maxHeartbeats 2000000 in
set_option maxRecDepth 100000 in
theorem wordAt_any (s : ByteArray) (w : World) (hs : s.size ≤ maxLen) (hT : Tabs w) :
    Calls Tryd.prog 31 #[.string s] w fun e w' => e = .returned (.tuple #[.int .i64 (wordOf s).1, .int .i64 (wordOf s).2]) ∧ Below w.heap.size w w' := by
  unfold maxLen at hs
  go_enter Tryd.func31, Tryd.ntmps31
  go_wp2
  go_loopw [2, 3, 4] (fun vs vr vn wr => ∃ (pos fuel seen size runes : Nat), vs = .int .i64 size ∧ vr = .int .i64 runes ∧ vn = .int .i64 seen ∧ wr.heap[w.heap.size]? = some (.stringIter s pos) ∧ Below w.heap.size w wr ∧
      wordGo s fuel pos seen size runes = wordOf s ∧ s.size ≤ pos + fuel ∧ pos ≤ s.size ∧ seen ≤ pos) (fun _ _ _ wr => s.size - wr.iterPos w.heap.size)
  case atStart =>
    exact ⟨0, s.size, 0, 0, 0, rfl, rfl, rfl, World.iter_heap w s 0, (Below.refl _ w).alloc (Nat.le_refl _) _, rfl, by omega, by omega, by omega⟩
  case round =>
    obtain ⟨pos, fuel, seen, size, runes, rfl, rfl, rfl, hit, hbw, hgo, hfu, hpos, hsn⟩ := hrel
    have hsz : w.heap.size < wr.heap.size := (Array.getElem?_eq_some_iff.1 hit).1
    have hmeas := iterPos_of hit
    have HM := Lib.hid hmeas
    clear hmeas
    by_cases hp : pos < s.size
    · have hnx : ∀ ty, (Instr.next (.pointer (some ⟨w.heap.size, 0, none⟩)) true ty).run Tryd.prog wr = _ := fun ty => Lib.run_next_any_at wr w.heap.size s pos ty hit hp
      have hwd := width_pos s pos hp
      have hwf := decode_fits s pos hp
      have hd1 := decode_le s pos
      have hlen := decode_len s pos
      have hit2 := Lib.iterAt_heap wr w.heap.size s pos (pos + (Utf8.decode s pos).2) hit
      have hbw2 := Lib.below_iterAt hbw (k := w.heap.size) (by omega) s (pos + (Utf8.decode s pos).2)
      have hT2 := hT.below hbw2
      have hsz2 : w.heap.size < (wr.iterAt w.heap.size s (pos + (Utf8.decode s pos).2)).heap.size := by rw [Lib.iterAt_size]; omega
      obtain ⟨f, rfl⟩ : ∃ f, fuel = f + 1 := ⟨fuel - 1, by omega⟩
      have hstop : wStop (pos == 0) (Utf8.decode s pos).1 = true → (size, runes) = wordOf s := fun h => by rw [← hgo, wordGo_stop _ _ _ _ _ _ h]
      have hmark : wStop (pos == 0) (Utf8.decode s pos).1 = false → (Utf8.decode s pos).1 = 45 → wordGo s f (pos + (Utf8.decode s pos).2) (seen + 1) size runes = wordOf s := fun h h2 => by rw [← hgo, wordGo_mark _ _ _ _ _ _ hp h h2]
      have hmore : wStop (pos == 0) (Utf8.decode s pos).1 = false → (Utf8.decode s pos).1 ≠ 45 → wordGo s f (pos + (Utf8.decode s pos).2) (seen + 1) (pos + (Utf8.decode s pos).2) (seen + 1) = wordOf s := fun h h2 => by rw [← hgo, wordGo_more _ _ _ _ _ _ hp h h2]
      have hwide : ∀ r' : Nat, (Utf8.decode s pos).1 = r' → r' ≤ 2147483647 := fun _ h => h ▸ hd1
      clear hgo hit hwide
      generalize (Utf8.decode s pos).1 = r at *
      generalize (Utf8.decode s pos).2 = n at *
      have Hlen := Lib.hid hlen
      have Hstop := Lib.hid hstop
      have Hmark := Lib.hid hmark
      have Hmore := Lib.hid hmore
      have Hit := Lib.hid hit2
      have hps : ∀ W : World, Below (wr.iterAt w.heap.size s (pos + n)).heap.size (wr.iterAt w.heap.size s (pos + n)) W → W.heap[w.heap.size]? = some (.stringIter s (pos + n)) := fun W hb => (hb.block _ hsz2).trans hit2
      have Hps := Lib.hid hps
      clear hlen hstop hmark hmore hit2 hps
      by_cases hl : letB r = true
      · have h45 : r ≠ 45 := fun e => by subst e; exact absurd hl (by rw [show letB ((45 : Nat) : Int) = false from letB_mark]; simp)
        have h65 : r ≠ 65533 := fun e => by subst e; exact absurd hl (by rw [show letB ((65533 : Nat) : Int) = false from letB_err]; simp)
        have hws : wStop (pos == 0) r = false := by simp [wStop, hl]
        have HG := Lib.hid (Hmore.out hws h45)
        have HL := Lib.hid (Hlen.out h65)
        clear hws h65
        go_wp2_with fail
        refine (isLetter_yes _ _ (by omega) (by omega) hT2 hl).mono ?_
        rintro e w1 ⟨rfl, b1⟩
        have hin := Lib.hid (Hps.out w1 b1)
        go_wp2_with fail
        refine (Tryd.utf8_RuneLen _ _).mono ?_
        rintro e w2 ⟨rfl, rfl⟩
        rw [HL.out]
        go_wp2
        go_roundw
        case rel => exact ⟨pos + n, f, seen + 1, pos + n, seen + 1, by go_num, by go_num, by go_num, hin.out, hbw2.trans (b1.mono (by omega)), HG.out, by omega, by omega, by omega⟩
        case measure => rw [HM.out, iterPos_of hin.out]; omega
      · have hl' : letB r = false := by simpa using hl
        by_cases h0 : pos = 0
        · have hws : wStop (pos == 0) r = true := by simp [wStop, hl', h0]
          have HG := Lib.hid (Hstop.out hws)
          clear hws
          subst h0
          simp only [Nat.zero_add] at hT2 hbw2 hsz2
          go_wp2_with fail
          refine (isLetter_no _ _ (by omega) (by omega) hT2 hl').mono ?_
          rintro e w1 ⟨rfl, b1⟩
          go_wp2
          go_ret2
          exact ⟨by rw [← HG.out]; rfl, hbw2.trans (b1.mono (by omega))⟩
        · by_cases h45 : r = 45
          · have hws : wStop (pos == 0) r = false := by simp [wStop, hl', h0, h45]
            have HG := Lib.hid (Hmark.out hws h45)
            clear hws
            subst h45
            go_wp2_with fail
            refine (isLetter_no _ _ (by omega) (by omega) hT2 hl').mono ?_
            rintro e w1 ⟨rfl, b1⟩
            have hin := Lib.hid (Hps.out w1 b1)
            go_wp2
            go_roundw
            case rel => exact ⟨pos + n, f, seen + 1, size, runes, by go_num, by go_num, by go_num, hin.out, hbw2.trans (b1.mono (by omega)), HG.out, by omega, by omega, by omega⟩
            case measure => rw [HM.out, iterPos_of hin.out]; omega
          · by_cases hd : digB r = true
            · have hws : wStop (pos == 0) r = false := by simp [wStop, hl', h0, h45, hd]
              have h65 : r ≠ 65533 := fun e => by subst e; exact absurd hd (by decide)
              have HG := Lib.hid (Hmore.out hws h45)
              have HL := Lib.hid (Hlen.out h65)
              clear hws h65
              go_wp2_with fail
              refine (isLetter_no _ _ (by omega) (by omega) hT2 hl').mono ?_
              rintro e w1 ⟨rfl, b1⟩
              have hin := Lib.hid (Hps.out w1 b1)
              go_wp2_with (go_at_call 46; refine (digit_yes _ _ hd).mono ?_; rintro e w' ⟨rfl, rfl⟩)
              refine (Tryd.utf8_RuneLen _ _).mono ?_
              rintro e w2 ⟨rfl, rfl⟩
              rw [HL.out]
              go_wp2
              go_roundw
              case rel => exact ⟨pos + n, f, seen + 1, pos + n, seen + 1, by go_num, by go_num, by go_num, hin.out, hbw2.trans (b1.mono (by omega)), HG.out, by omega, by omega, by omega⟩
              case measure => rw [HM.out, iterPos_of hin.out]; omega
            · have hd' : digB r = false := by simpa using hd
              have hws : wStop (pos == 0) r = true := by simp [wStop, hl', hd', show ((r : Int) == 45) = false from by simp; omega]
              have HG := Lib.hid (Hstop.out hws)
              have q1 : ((pos : Int) == 0) = false := by simp; omega
              have q2 : ((r : Int) != 45) = true := by simp; omega
              clear hws
              go_wp2_with fail
              refine (isLetter_no _ _ (by omega) (by omega) hT2 hl').mono ?_
              rintro e w1 ⟨rfl, b1⟩
              go_wp2_with (go_at_call 46; refine (digit_no _ _ hd').mono ?_; rintro e w' ⟨rfl, rfl⟩)
              go_ret2
              exact ⟨by rw [← HG.out]; rfl, hbw2.trans (b1.mono (by omega))⟩
    · have hnx : ∀ ty, (Instr.next (.pointer (some ⟨w.heap.size, 0, none⟩)) true ty).run Tryd.prog wr = _ := fun ty => Lib.run_next_end_at wr w.heap.size s pos ty hit hp
      have HG : Hid ((size, runes) = wordOf s) := by rw [← hgo, wordGo_end _ _ _ _ _ _ hp]; exact rfl
      clear hgo
      go_wp2
      go_ret2
      exact ⟨by rw [← HG.out]; rfl, hbw⟩

/-- Is it a word, as a whole? -/
def wordB (s : ByteArray) : Bool := decide (0 < (wordOf s).1) && decide ((wordOf s).1 = s.size) && decide ((wordOf s).2 ≤ 24)

end Go.Proofs.YtanbkgifjlobgaaDoor
