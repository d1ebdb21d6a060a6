/- Layer 2 (parse): a reader reads one of some words. -/
import Derived.Test.YtaffgdgdojdoiaaGreatDoorParWords
namespace Go.Proofs.YtaffgdgdojdoiaaGreatDoor
open Go.RowKit Go.Lib

theorem findW_idx (x : ByteArray) : ∀ (ws : List ByteArray) (i : Nat), Lib.idxFromS ws x i = (match findW ws x i with | some k => (k : Int) | none => -1)
  | [], _ => rfl
  | w :: l, i => by
    unfold Lib.idxFromS findW
    by_cases h : w = x
    · rw [if_pos h, if_pos h]
    · rw [if_neg h, if_neg h]; exact findW_idx x l (i + 1)
theorem findW_lt (x : ByteArray) : ∀ (ws : List ByteArray) (i k : Nat), findW ws x i = some k → i ≤ k ∧ k < i + ws.length ∧ x ∈ ws
  | [], _, _, h => by simp [findW] at h
  | w :: l, i, k, h => by
    unfold findW at h
    by_cases he : w = x
    · rw [if_pos he] at h; cases h; exact ⟨Nat.le_refl _, by simp, by simp [he]⟩
    · rw [if_neg he] at h
      have := findW_lt x l (i + 1) k h
      exact ⟨by omega, by simp; omega, by simp [this.2.2]⟩

/-- Words in memory. -/
def WordsAt (w : World) (R : Nat) (v : Value) (ws : List ByteArray) : Prop :=
  ∃ b c, v = .slice (some ⟨b, 0, none⟩) ws.length c ∧ b ≠ R ∧ ∀ j, j < ws.length → w.cell? ⟨b, j, none⟩ = some (.string (ws.getD j ByteArray.empty))
theorem WordsAt.kept {w w' : World} {R : Nat} {v : Value} {ws : List ByteArray} (h : WordsAt w R v ws) (k : Kept R w w') : WordsAt w' R v ws := by
  obtain ⟨b, c, hv, hb, hc⟩ := h
  exact ⟨b, c, hv, hb, fun j hj => k.cell hb (hc j hj)⟩
theorem words_new (w : World) (R : Nat) (ws : List ByteArray) (t : TypeId) (hR : R < w.heap.size) : WordsAt (w.alloc (.cells (ws.map Value.string).toArray t)) R (.slice (some ⟨w.heap.size, 0, none⟩) ws.length ws.length) ws := by
  refine ⟨_, _, rfl, by omega, fun j hj => ?_⟩
  rw [cell_blk (heap_alloc_new w _)]
  simp [hj]

/-- Words of which none is empty, few enough for a byte. -/
structure Wordy (ws : List ByteArray) : Prop where
  pos : 0 < ws.length
  few : ws.length ≤ 200
  some : ∀ x ∈ ws, x ≠ ⟨#[]⟩

def OneEnds (E : Env) (s : RS) (d : Int) (ws : List ByteArray) (w : World) (e : Ending) (w' : World) : Prop := ∃ (k : Nat) (s' : RS), e = .returned (.int .u8 k) ∧ Res (pOne E.ts ws) s k s' ∧ k < ws.length ∧ Goes w E s' d w'

set_option maxHeartbeats 1000000 in
set_option maxRecDepth 100000 in
theorem oneOf_any (E : Env) (s : RS) (d : Int) (w : World) (v : Value) (ws : List ByteArray) (hw : Wordy ws) (hv : WordsAt w E.R v ws) (h : Rd w E s d) :
    Calls Tryz.prog 39 #[.pointer (some ⟨E.R, 0, none⟩), v] w (OneEnds E s d ws w) := by
  have hnext := next_reads E _ d w h
  have HN := Lib.hid hnext
  clear hnext
  obtain ⟨b, c, rfl, hb, hc⟩ := hv
  have hi : Hid (∀ w1, Below w.heap.size w w1 → Calls Tryz.prog 73 #[.slice (some ⟨b, 0, none⟩) ws.length c, .string (E.tok s).text] w1 fun e w' => e = .returned (.int .i64 (match findW ws (E.tok s).text 0 with | some k => (k : Int) | none => -1)) ∧ w' = w1) := fun w1 b1 => by
    have := Tryz.slices_Index_string b 0 ws.length c ws (E.tok s).text w1 (Nat.le_refl _) (by have := hw.few; omega) (fun j hj => by rw [Nat.zero_add]; exact cell_later b1 (hc j hj))
    rw [List.take_length, Lib.idxOfS, findW_idx] at this
    exact this
  have hfew := hw.few
  have hpos := hw.pos
  cases hf : findW ws (E.tok s).text 0 with
  | some k =>
    have hlt := findW_lt _ _ _ _ hf
    have hne := hw.some _ hlt.2.2
    rcases sees_or h (E.tok s).text hne with ⟨p, rfl, hp, -⟩ | ht
    · have hq : Hid (∀ w1, Below w.heap.size w w1 → Calls Tryz.prog 74 #[.pointer (some ⟨E.R, 0, none⟩)] w1 fun e w' => e = .returned (.tuple #[]) ∧ Goes w1 E (.ok (p + 1)) d w') := fun w1 b1 => pass_on E p d w1 (h.below b1) hp
      have hr : Hid (Res (pOne E.ts ws) (.ok p) k (.ok (p + 1))) := Res.of_ok (by have hf' : findW ws (tk E.ts p).text 0 = some k := hf; simp [pOne, hf'])
      have hk : k < ws.length := by omega
      simp only [hf] at hi
      have HI := Lib.hid hi
      have HP := Lib.hid (And.intro hpos hfew)
      have k0 : (0 : Int) ≤ (k : Int) := by omega
      have k1 : (k : Int) < 256 := by omega
      clear h hp hf hlt hne hb hc hw hi hpos hfew
      generalize E.tok (.ok p) = t at *
      obtain ⟨kd, x, l, y⟩ := t
      have hf1 := tokf1 kd x l y
      simp only [] at HI
      go_enter Tryz.func39, Tryz.ntmps39
      go_wp2_with fail
      refine HN.out.mono ?_
      rintro e w1 ⟨rfl, b1⟩
      have B1 := Lib.hid b1
      clear b1
      go_wp2_with fail
      refine (HI.out _ B1.out).mono ?_
      rintro e w2 ⟨rfl, rfl⟩
      go_wp2_with fail
      refine (hq.out _ B1.out).mono ?_
      rintro e w3 ⟨rfl, g⟩
      have GG := Lib.hid g
      clear g
      go_wp2
      go_ret
      exact ⟨k, _, rfl, hr.out, hk, GG.out.of_below B1.out⟩
    · exact absurd rfl ht
  | none =>
    have hq : Hid (∀ w1, Below w.heap.size w w1 → _) := fun w1 b1 => fail_any E s d w1 5 (by decide) (h.below b1)
    have hr : Hid (Res (pOne E.ts ws) s 0 (s.fails E 5)) := by
      cases s with
      | ok p => exact (Res.fails E 5 (.ok p) _).congr (fun q hq => by cases hq; have hf' : findW ws (tk E.ts p).text 0 = none := hf; simp [pOne, hf'])
      | bad x l c => rfl
    simp only [hf] at hi
    have HI := Lib.hid hi
    have HP := Lib.hid hpos
    clear h hf hb hc hw hi hpos hfew
    generalize E.tok s = t at *
    obtain ⟨kd, x, l, y⟩ := t
    have hf1 := tokf1 kd x l y
    simp only [] at HI
    go_enter Tryz.func39, Tryz.ntmps39
    go_wp2_with fail
    refine HN.out.mono ?_
    rintro e w1 ⟨rfl, b1⟩
    have B1 := Lib.hid b1
    clear b1
    go_wp2_with fail
    refine (HI.out _ B1.out).mono ?_
    rintro e w2 ⟨rfl, rfl⟩
    go_wp2_with fail
    refine (hq.out _ B1.out).mono ?_
    rintro e w3 ⟨rfl, g⟩
    have GG := Lib.hid g
    clear g
    go_wp2
    go_ret
    exact ⟨0, _, rfl, hr.out, HP.out, GG.out.of_below B1.out⟩

theorem wordy_sides : Wordy sidesW := ⟨by decide, by decide, by decide⟩
theorem wordy_zones : Wordy zonesW := ⟨by decide, by decide, by decide⟩
theorem wordy_kinds : Wordy kindsW := ⟨by decide, by decide, by decide⟩
theorem wordy_selKinds : Wordy selKindsW := ⟨by decide, by decide, by decide⟩
theorem wordy_events : Wordy eventsW := ⟨by decide, by decide, by decide⟩
theorem wordy_modes : Wordy modesW := ⟨by decide, by decide, by decide⟩
theorem wordy_ops : Wordy opsW := ⟨by decide, by decide, by decide⟩

theorem words_sides (w : World) (R b : Nat) (hb : w.heap.size = b) (hR : R < b) : WordsAt (w.alloc (.cells #[.string ⟨#[109, 105, 110, 101]⟩, .string ⟨#[116, 104, 101, 105, 114, 115]⟩, .string ⟨#[97, 110, 121]⟩, .string ⟨#[115, 101, 108, 102]⟩] 9)) R (.slice (some ⟨b, 0, none⟩) 4 4) sidesW := by subst hb; exact words_new w R sidesW 9 hR
theorem words_zones (w : World) (R b : Nat) (hb : w.heap.size = b) (hR : R < b) : WordsAt (w.alloc (.cells #[.string ⟨#[100, 101, 99, 107]⟩, .string ⟨#[104, 97, 110, 100]⟩, .string ⟨#[114, 111, 119]⟩, .string ⟨#[98, 97, 99, 107]⟩, .string ⟨#[103, 114, 97, 118, 101]⟩, .string ⟨#[101, 120, 105, 108, 101]⟩] 9)) R (.slice (some ⟨b, 0, none⟩) 6 6) zonesW := by subst hb; exact words_new w R zonesW 9 hR
theorem words_kinds (w : World) (R b : Nat) (hb : w.heap.size = b) (hR : R < b) : WordsAt (w.alloc (.cells #[.string ⟨#[117, 110, 105, 116]⟩, .string ⟨#[115, 112, 101, 108, 108]⟩, .string ⟨#[113, 117, 105, 99, 107]⟩, .string ⟨#[116, 114, 97, 112]⟩, .string ⟨#[99, 111, 117, 110, 116, 101, 114]⟩] 9)) R (.slice (some ⟨b, 0, none⟩) 5 5) kindsW := by subst hb; exact words_new w R kindsW 9 hR
theorem words_events (w : World) (R b : Nat) (hb : w.heap.size = b) (hR : R < b) : WordsAt (w.alloc (.cells #[.string ⟨#[116, 114, 121]⟩, .string ⟨#[115, 117, 109, 109, 111, 110]⟩, .string ⟨#[97, 116, 116, 97, 99, 107]⟩, .string ⟨#[100, 101, 115, 116, 114, 111, 121]⟩, .string ⟨#[100, 97, 109, 97, 103, 101]⟩, .string ⟨#[108, 105, 110, 107]⟩, .string ⟨#[115, 116, 97, 110, 100, 98, 121]⟩, .string ⟨#[101, 110, 100]⟩] 9)) R (.slice (some ⟨b, 0, none⟩) 8 8) eventsW := by subst hb; exact words_new w R eventsW 9 hR
theorem words_modes (w : World) (R b : Nat) (hb : w.heap.size = b) (hR : R < b) : WordsAt (w.alloc (.cells #[.string ⟨#[112, 108, 97, 121]⟩, .string ⟨#[97, 99, 116]⟩, .string ⟨#[115, 119, 105, 102, 116]⟩, .string ⟨#[119, 104, 101, 110]⟩, .string ⟨#[105, 102]⟩, .string ⟨#[109, 117, 115, 116]⟩, .string ⟨#[97, 117, 114, 97]⟩] 9)) R (.slice (some ⟨b, 0, none⟩) 7 7) modesW := by subst hb; exact words_new w R modesW 9 hR
theorem words_ops (w : World) (R b : Nat) (hb : w.heap.size = b) (hR : R < b) : WordsAt (w.alloc (.cells #[.string ⟨#[43]⟩, .string ⟨#[45]⟩, .string ⟨#[42]⟩, .string ⟨#[60]⟩, .string ⟨#[61]⟩, .string ⟨#[97, 110, 100]⟩, .string ⟨#[111, 114]⟩, .string ⟨#[110, 111, 116]⟩] 9)) R (.slice (some ⟨b, 0, none⟩) 8 8) opsW := by subst hb; exact words_new w R opsW 9 hR
theorem words_needs (w : World) (R b : Nat) (hb : w.heap.size = b) (hR : R < b) : WordsAt (w.alloc (.cells #[.string ⟨#[110, 101, 101, 100, 115]⟩] 9)) R (.slice (some ⟨b, 0, none⟩) 1 1) [⟨#[110, 101, 101, 100, 115]⟩] := by subst hb; exact words_new w R [⟨#[110, 101, 101, 100, 115]⟩] 9 hR
theorem words_all (w : World) (R b : Nat) (hb : w.heap.size = b) (hR : R < b) : WordsAt (w.alloc (.cells #[.string ⟨#[97, 108, 108]⟩] 9)) R (.slice (some ⟨b, 0, none⟩) 1 1) [⟨#[97, 108, 108]⟩] := by subst hb; exact words_new w R [⟨#[97, 108, 108]⟩] 9 hR

set_option maxHeartbeats 1000000 in
set_option maxRecDepth 100000 in
theorem side_any (E : Env) (s : RS) (d : Int) (w : World) (h : Rd w E s d) :
    Calls Tryz.prog 57 #[.pointer (some ⟨E.R, 0, none⟩)] w (OneEnds E s d sidesW w) := by
  have hb : Below w.heap.size w (w.alloc (.cells (sidesW.map Value.string).toArray 9)) := (Below.refl _ _).alloc (Nat.le_refl _) _
  have ho := oneOf_any E s d _ _ sidesW wordy_sides (words_new w E.R sidesW 9 h.lt) (h.below hb)
  have HO := Lib.hid ho
  have HB := Lib.hid hb
  clear h ho hb
  go_enter Tryz.func57, Tryz.ntmps57
  go_wp2_with fail
  refine HO.out.mono ?_
  rintro e w1 ⟨k, s', rfl, hr, hk, g⟩
  have HR := Lib.hid (And.intro hr (And.intro hk g))
  clear hr hk g
  go_wp2
  go_ret
  exact ⟨k, s', rfl, HR.out.1, HR.out.2.1, HR.out.2.2.of_below HB.out⟩

theorem ret_num {k : IntKind} {a b : Int} (h : a = b) : Ending.returned (.int k a) = .returned (.int k b) := by rw [h]
def EventEnds (E : Env) (s : RS) (d : Int) (w : World) (e : Ending) (w' : World) : Prop := ∃ (k : Nat) (s' : RS), e = .returned (.int .u8 ((k + 1 : Nat) : Int)) ∧ Res (pOne E.ts eventsW) s k s' ∧ k < 8 ∧ Goes w E s' d w'
set_option maxHeartbeats 1000000 in
set_option maxRecDepth 100000 in
theorem event_any (E : Env) (s : RS) (d : Int) (w : World) (h : Rd w E s d) :
    Calls Tryz.prog 76 #[.pointer (some ⟨E.R, 0, none⟩)] w (EventEnds E s d w) := by
  have hb : Below w.heap.size w (w.alloc (.cells (eventsW.map Value.string).toArray 9)) := (Below.refl _ _).alloc (Nat.le_refl _) _
  have ho := oneOf_any E s d _ _ eventsW wordy_events (words_new w E.R eventsW 9 h.lt) (h.below hb)
  have HO := Lib.hid ho
  have HB := Lib.hid hb
  clear h ho hb
  go_enter Tryz.func76, Tryz.ntmps76
  go_wp2_with fail
  refine HO.out.mono ?_
  rintro e w1 ⟨k, s', rfl, hr, hk, g⟩
  have hk8 : k < 8 := hk
  have HR := Lib.hid (And.intro hr g)
  clear hr hk g
  have k1 : (k : Int) ≤ 7 := by omega
  have k0 : (0 : Int) ≤ (k : Int) := by omega
  go_wp2
  go_ret
  exact ⟨k, s', ret_num (by omega), HR.out.1, hk8, HR.out.2.of_below HB.out⟩

def ListEnds (R : Nat) (ws : List ByteArray) (w : World) (e : Ending) (w' : World) : Prop := ∃ v, e = .returned v ∧ WordsAt w' R v ws ∧ Below w.heap.size w w'
set_option maxRecDepth 100000 in
theorem kinds_any (R : Nat) (w : World) (hR : R < w.heap.size) : Calls Tryz.prog 17 #[] w (ListEnds R kindsW w) := by
  have ho := words_new w R kindsW 9 hR
  have HO := Lib.hid ho
  clear ho
  go_enter Tryz.func17, Tryz.ntmps17
  go_wp2
  go_ret
  exact ⟨_, rfl, HO.out, (Below.refl _ _).alloc (Nat.le_refl _) _⟩
set_option maxRecDepth 100000 in
theorem modes_any (R : Nat) (w : World) (hR : R < w.heap.size) : Calls Tryz.prog 44 #[] w (ListEnds R modesW w) := by
  have ho := words_new w R modesW 9 hR
  have HO := Lib.hid ho
  clear ho
  go_enter Tryz.func44, Tryz.ntmps44
  go_wp2
  go_ret
  exact ⟨_, rfl, HO.out, (Below.refl _ _).alloc (Nat.le_refl _) _⟩
end Go.Proofs.YtaffgdgdojdoiaaGreatDoor
