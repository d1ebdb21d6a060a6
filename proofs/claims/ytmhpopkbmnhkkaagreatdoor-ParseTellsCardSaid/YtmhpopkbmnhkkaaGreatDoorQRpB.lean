import Derived.Test.YtmhpopkbmnhkkaaGreatDoorQRpA
import Derived.Test.YtmhpopkbmnhkkaaGreatDoorQRpMath
import Derived.Test.YtmhpopkbmnhkkaaGreatDoorQParB
/- joustref02: one of some words; the words of each kind; which cards are meant. -/
namespace Go.Proofs.YtmhpopkbmnhkkaaGreatDoor
open Go.RowKit Go.Lib

theorem findW_first (x : ByteArray) : ∀ (ws : List ByteArray) (o i : Nat), (∀ j, j < i → ws.getD j ByteArray.empty ≠ x) → i < ws.length → ws.getD i ByteArray.empty = x → findW ws x o = some (o + i)
  | [], _, _, _, h, _ => absurd h (by simp)
  | w :: l, o, 0, _, _, h => by
    have e : w = x := h
    unfold findW
    rw [if_pos e]
    rfl
  | w :: l, o, i + 1, hj, hi, h => by
    have e : w ≠ x := hj 0 (by omega)
    unfold findW
    rw [if_neg e, findW_first x l (o + 1) i (fun j hji => hj (j + 1) (by omega)) (by simpa using hi) h]
    congr 1; omega
theorem findW_none (x : ByteArray) : ∀ (ws : List ByteArray) (o : Nat), (∀ j, j < ws.length → ws.getD j ByteArray.empty ≠ x) → findW ws x o = none
  | [], _, _ => rfl
  | w :: l, o, hj => by
    have e : w ≠ x := hj 0 (by simp)
    unfold findW
    rw [if_neg e]
    exact findW_none x l (o + 1) (fun j hji => hj (j + 1) (by simpa using hji))

/-- Words, each of which is a word or a mark, few enough for a byte. -/
structure Wdy (ws : List ByteArray) : Prop where
  pos : 0 < ws.length
  few : ws.length ≤ 200
  all : ∀ x ∈ ws, wordy x = true
theorem Wdy.at {ws : List ByteArray} (h : Wdy ws) {j : Nat} (hj : j < ws.length) : wordy (ws.getD j ByteArray.empty) = true := by
  rw [List.getD_eq_getElem?_getD, List.getElem?_eq_getElem hj]
  exact h.all _ (List.getElem_mem hj)

def ROneEnds (E : REnv) (s : RS) (ws : List ByteArray) (w : World) (e : Ending) (w' : World) : Prop := ∃ (k : Nat) (s' : RS), e = .returned (.int .u8 k) ∧ Res (pOne E.ts ws) s k s' ∧ k < ws.length ∧ RGoes w E s' w'
/-- None of the first words stands next. -/
def NoneYet (E : REnv) (s : RS) (ws : List ByteArray) (i : Nat) : Prop := ∀ j, j < i → sees E s (ws.getD j ByteArray.empty) = false

theorem none_one {E : REnv} {p : Nat} {ws : List ByteArray} {i : Nat} (h : NoneYet E (.ok p) ws i) (hi : i < ws.length) (hs : sees E (.ok p) (ws.getD i ByteArray.empty) = true) : findW ws (tk E.ts p).text 0 = some i := by
  have := findW_first (tk E.ts p).text ws 0 i (fun j hj e => sees_no (h j hj) e.symm) hi (of_decide_eq_true hs).symm
  rw [this, Nat.zero_add]
theorem none_all {E : REnv} {p : Nat} {ws : List ByteArray} (h : NoneYet E (.ok p) ws ws.length) : findW ws (tk E.ts p).text 0 = none :=
  findW_none _ ws 0 fun j hj e => sees_no (h j hj) e.symm

/-- Which one of some words stands next; the first one, if none. -/
def oneK (E : REnv) (s : RS) (ws : List ByteArray) : Nat := match s with
  | .ok p => (findW ws (tk E.ts p).text 0).getD 0
  | .bad _ _ _ => 0
def ROneK (E : REnv) (s : RS) (ws : List ByteArray) (w : World) (e : Ending) (w' : World) : Prop := ∃ (s' : RS), e = .returned (.int .u8 (oneK E s ws)) ∧ Res (pOne E.ts ws) s (oneK E s ws) s' ∧ oneK E s ws < ws.length ∧ RGoes w E s' w'
theorem ret_u8 {a b : Nat} (h : a = b) : Ending.returned (.int .u8 a) = .returned (.int .u8 b) := by rw [h]

set_option maxHeartbeats 1000000 in
set_option maxRecDepth 100000 in
theorem rone_k (E : REnv) (s : RS) (w : World) (v : Value) (ws : List ByteArray) (hw : Wdy ws) (hv : WordsAt w E.R v ws) (h : RR w E s) :
    Calls Tryz.prog 73 #[.pointer (some ⟨E.R, 0, none⟩), v] w (ROneK E s ws w) := by
  obtain ⟨b, c, rfl, hb, hc⟩ := hv
  have HC := Lib.hid hc
  have HS0 := Lib.hid (RGoes.start h)
  have hfew := hw.few
  have HW := Lib.hid hw
  have hpos := hw.pos
  clear h hc hw
  go_enter Tryz.func73, Tryz.ntmps73
  go_wp2
  go_loopw [5] (fun vp wr => ∃ (i : Nat), vp = .int .i64 i ∧ i ≤ ws.length ∧ RGoes w E s wr ∧ NoneYet E s ws i) (fun vp _ => ws.length - (RowKit.intOf vp).toNat)
  case atStart => exact ⟨0, rfl, Nat.zero_le _, HS0.out, fun j hj => by omega⟩
  case round =>
    obtain ⟨i, rfl, hi, gg, hn⟩ := hrel
    have GG := Lib.hid gg
    have HN := Lib.hid hn
    by_cases hlt : i < ws.length
    · have hci := gg.kept.cell (a := ⟨b, i, none⟩) hb (HC.out i hlt)
      have hwd := HW.out.at hlt
      have hli := World.block_lt_of_cell? _ _ hci
      have hi2 : (i : Int) < (ws.length : Int) := by omega
      cases hs : sees E s (ws.getD i ByteArray.empty) with
      | true =>
        have hm := rmay_any E s wr _ true hwd hs gg.rd
        have HM := Lib.hid hm
        obtain ⟨p, rfl, -⟩ := sees_yes hs
        have hr : Hid (Res (pOne E.ts ws) (.ok p) i (.ok (p + 1))) := Res.of_ok (by have := none_one hn hlt hs; simp [pOne, this])
        have hk : Hid (i = oneK E (.ok p) ws) := by show i = (findW ws (tk E.ts p).text 0).getD 0; rw [none_one hn hlt hs]; rfl
        have k0 : (0 : Int) ≤ (i : Int) := by omega
        have k1 : (i : Int) < 256 := by omega
        generalize ws.getD i ByteArray.empty = tx at *
        clear gg hm hs hn
        go_wp2_with fail
        refine HM.out.mono ?_
        rintro e w1 ⟨rfl, g⟩
        have G1 := Lib.hid g
        clear g
        go_wp2
        go_ret
        exact ⟨_, ret_u8 hk.out, by rw [← hk.out]; exact hr.out, by rw [← hk.out]; exact hlt, GG.out.trans G1.out⟩
      | false =>
        have hm := rmay_any E s wr _ false hwd hs gg.rd
        have hss : s.step false = s := by cases s <;> rfl
        have HM := Lib.hid hm
        have HSS := Lib.hid hss
        have hn2 : Hid (NoneYet E s ws (i + 1)) := fun j hj => by
          rcases Nat.lt_or_ge j i with h1 | h1
          · exact hn j h1
          · have : j = i := by omega
            subst this; exact hs
        generalize ws.getD i ByteArray.empty = tx at *
        clear gg hm hs hss hn
        go_wp2_with fail
        refine HM.out.mono ?_
        rintro e w1 ⟨rfl, g⟩
        rw [HSS.out] at g
        have G1 := Lib.hid g
        clear g
        go_wp2
        go_roundw
        case rel => exact ⟨i + 1, by go_num, hlt, GG.out.trans G1.out, hn2.out⟩
        case measure => simp [RowKit.intOf]; omega
    · have he : i = ws.length := by omega
      subst he
      have hq : Hid (∀ w1, Below wr.heap.size wr w1 → _) := fun w1 b1 => rfails_any E s w1 5 (by decide) (gg.rd.below b1)
      have hr : Hid (Res (pOne E.ts ws) s 0 (s.failR E 5)) := by
        cases s with
        | ok p => exact (Res.failR E 5 (.ok p) _).congr (fun q hq => by cases hq; have hf' := none_all hn; simp [pOne, hf'])
        | bad x l c => rfl
      have hk : Hid (0 = oneK E s ws) := by
        cases s with
        | ok p => show 0 = (findW ws (tk E.ts p).text 0).getD 0; rw [none_all hn]; rfl
        | bad _ _ _ => rfl
      clear gg hn
      go_wp2_with fail
      refine (hq.out _ (Below.refl _ _)).mono ?_
      rintro e w1 ⟨rfl, g⟩
      have G1 := Lib.hid g
      clear g
      go_wp2
      go_ret
      exact ⟨_, ret_u8 hk.out, by rw [← hk.out]; exact hr.out, by rw [← hk.out]; exact hpos, GG.out.trans G1.out⟩

theorem rone_any (E : REnv) (s : RS) (w : World) (v : Value) (ws : List ByteArray) (hw : Wdy ws) (hv : WordsAt w E.R v ws) (h : RR w E s) :
    Calls Tryz.prog 73 #[.pointer (some ⟨E.R, 0, none⟩), v] w (ROneEnds E s ws w) :=
  (rone_k E s w v ws hw hv h).mono fun _ _ ⟨s', he, hr, hl, g⟩ => ⟨_, s', he, hr, hl, g⟩

set_option maxHeartbeats 1000000 in
set_option maxRecDepth 100000 in
theorem ramong_any (E : REnv) (s : RS) (w : World) (v : Value) (ws : List ByteArray) (hw : Wdy ws) (hv : WordsAt w E.R v ws) (h : RR w E s) :
    Calls Tryz.prog 35 #[.pointer (some ⟨E.R, 0, none⟩), v] w fun e w' => e = .returned (.bool (amongW E s ws)) ∧ RGoes w E s w' := by
  obtain ⟨b, c, rfl, hb, hc⟩ := hv
  have HC := Lib.hid hc
  have HS0 := Lib.hid (RGoes.start h)
  have hfew := hw.few
  have HW := Lib.hid hw
  have hpos := hw.pos
  clear h hc hw
  go_enter Tryz.func35, Tryz.ntmps35
  go_wp2
  go_loopw [5] (fun vp wr => ∃ (i : Nat), vp = .int .i64 i ∧ i ≤ ws.length ∧ RGoes w E s wr ∧ NoneYet E s ws i) (fun vp _ => ws.length - (RowKit.intOf vp).toNat)
  case atStart => exact ⟨0, rfl, Nat.zero_le _, HS0.out, fun j hj => by omega⟩
  case round =>
    obtain ⟨i, rfl, hi, gg, hn⟩ := hrel
    have GG := Lib.hid gg
    have HN := Lib.hid hn
    by_cases hlt : i < ws.length
    · have hci := gg.kept.cell (a := ⟨b, i, none⟩) hb (HC.out i hlt)
      have hwd := HW.out.at hlt
      have hli := World.block_lt_of_cell? _ _ hci
      have hi2 : (i : Int) < (ws.length : Int) := by omega
      cases hs : sees E s (ws.getD i ByteArray.empty) with
      | true =>
        have hm := ris_any E s wr _ true hwd hs gg.rd
        have HM := Lib.hid hm
        obtain ⟨p, rfl, -⟩ := sees_yes hs
        have hr : Hid (amongW E (.ok p) ws = true) := by have := none_one hn hlt hs; unfold Hid amongW inW; simp [this]
        generalize ws.getD i ByteArray.empty = tx at *
        clear gg hm hs hn
        go_wp2_with fail
        refine HM.out.mono ?_
        rintro e w1 ⟨rfl, b1⟩
        have B1 := Lib.hid b1
        clear b1
        go_wp2
        go_ret
        exact ⟨ret_bool (by rw [hr.out]), GG.out.below B1.out⟩
      | false =>
        have hm := ris_any E s wr _ false hwd hs gg.rd
        have HM := Lib.hid hm
        have hn2 : Hid (NoneYet E s ws (i + 1)) := fun j hj => by
          rcases Nat.lt_or_ge j i with h1 | h1
          · exact hn j h1
          · have : j = i := by omega
            subst this; exact hs
        generalize ws.getD i ByteArray.empty = tx at *
        clear gg hm hs hn
        go_wp2_with fail
        refine HM.out.mono ?_
        rintro e w1 ⟨rfl, b1⟩
        have B1 := Lib.hid b1
        clear b1
        go_wp2
        go_roundw
        case rel => exact ⟨i + 1, by go_num, hlt, GG.out.below B1.out, hn2.out⟩
        case measure => simp [RowKit.intOf]; omega
    · have he : i = ws.length := by omega
      subst he
      have hr : Hid (amongW E s ws = false) := by
        cases s with
        | ok p => have := none_all hn; unfold Hid amongW inW; simp [this]
        | bad x l c => rfl
      clear gg hn
      go_wp2
      go_ret
      exact ⟨ret_bool (by rw [hr.out]), GG.out⟩

theorem wdy_sides : Wdy sidesW := ⟨by decide, by decide, by decide⟩
theorem wdy_zones : Wdy zonesW := ⟨by decide, by decide, by decide⟩
theorem wdy_kinds : Wdy kindsW := ⟨by decide, by decide, by decide⟩
theorem wdy_events : Wdy eventsW := ⟨by decide, by decide, by decide⟩
theorem wdy_modes : Wdy modesW := ⟨by decide, by decide, by decide⟩
theorem wdy_steps : Wdy stepsW := ⟨by decide, by decide, by decide⟩
theorem wdy_ops : Wdy opsW := ⟨by decide, by decide, by decide⟩

set_option maxRecDepth 100000 in
theorem rSides_any (R : Nat) (w : World) (hR : R < w.heap.size) : Calls Tryz.prog 84 #[] w (ListEnds R sidesW w) := by
  have ho := words_new w R sidesW 9 hR
  have HO := Lib.hid ho
  clear ho
  go_enter Tryz.func84, Tryz.ntmps84
  go_wp2
  go_ret
  exact ⟨_, rfl, HO.out, (Below.refl _ _).alloc (Nat.le_refl _) _⟩

set_option maxRecDepth 100000 in
theorem rZones_any (R : Nat) (w : World) (hR : R < w.heap.size) : Calls Tryz.prog 133 #[] w (ListEnds R zonesW w) := by
  have ho := words_new w R zonesW 9 hR
  have HO := Lib.hid ho
  clear ho
  go_enter Tryz.func133, Tryz.ntmps133
  go_wp2
  go_ret
  exact ⟨_, rfl, HO.out, (Below.refl _ _).alloc (Nat.le_refl _) _⟩

set_option maxRecDepth 100000 in
theorem rKinds_any (R : Nat) (w : World) (hR : R < w.heap.size) : Calls Tryz.prog 36 #[] w (ListEnds R kindsW w) := by
  have ho := words_new w R kindsW 9 hR
  have HO := Lib.hid ho
  clear ho
  go_enter Tryz.func36, Tryz.ntmps36
  go_wp2
  go_ret
  exact ⟨_, rfl, HO.out, (Below.refl _ _).alloc (Nat.le_refl _) _⟩

set_option maxRecDepth 100000 in
theorem rEvents_any (R : Nat) (w : World) (hR : R < w.heap.size) : Calls Tryz.prog 130 #[] w (ListEnds R eventsW w) := by
  have ho := words_new w R eventsW 9 hR
  have HO := Lib.hid ho
  clear ho
  go_enter Tryz.func130, Tryz.ntmps130
  go_wp2
  go_ret
  exact ⟨_, rfl, HO.out, (Below.refl _ _).alloc (Nat.le_refl _) _⟩

set_option maxRecDepth 100000 in
theorem rModes_any (R : Nat) (w : World) (hR : R < w.heap.size) : Calls Tryz.prog 77 #[] w (ListEnds R modesW w) := by
  have ho := words_new w R modesW 9 hR
  have HO := Lib.hid ho
  clear ho
  go_enter Tryz.func77, Tryz.ntmps77
  go_wp2
  go_ret
  exact ⟨_, rfl, HO.out, (Below.refl _ _).alloc (Nat.le_refl _) _⟩

set_option maxRecDepth 100000 in
theorem rSteps_any (R : Nat) (w : World) (hR : R < w.heap.size) : Calls Tryz.prog 131 #[] w (ListEnds R stepsW w) := by
  have ho := words_new w R stepsW 9 hR
  have HO := Lib.hid ho
  clear ho
  go_enter Tryz.func131, Tryz.ntmps131
  go_wp2
  go_ret
  exact ⟨_, rfl, HO.out, (Below.refl _ _).alloc (Nat.le_refl _) _⟩
theorem WordsAt.form {w : World} {R : Nat} {v : Value} {ws : List ByteArray} (h : WordsAt w R v ws) : ∃ a n c, v = .slice a n c := by
  obtain ⟨b, c, hv, -⟩ := h; exact ⟨_, _, _, hv⟩
end Go.Proofs.YtmhpopkbmnhkkaaGreatDoor

/- joustref02: which cards are meant. -/
namespace Go.Proofs.YtmhpopkbmnhkkaaGreatDoor
open Go.RowKit Go.Lib

def RSelEnds (E : REnv) (s : RS) (w : World) (e : Ending) (w' : World) : Prop := ∃ (x : Sl) (s' : RS), e = .returned (.agg #[.int .u8 x.side, .int .u8 x.zone, .int .u8 x.kind]) ∧ Res (pSel E.ts) s x s' ∧ RGoes w E s' w'

set_option maxHeartbeats 2000000 in
set_option maxRecDepth 100000 in
theorem rsel_any (E : REnv) (s : RS) (w : World) (h : RR w E s) :
    Calls Tryz.prog 85 #[.pointer (some ⟨E.R, 0, none⟩)] w (RSelEnds E s w) := by
  have HE := Lib.hid h.both
  have GG := Lib.hid (RGoes.start h)
  have hlt := h.lt
  clear h
  go_enter Tryz.func85, Tryz.ntmps85
  go_wp2_with fail
  refine (rSides_any E.R _ (by simp; omega)).mono ?_
  rintro e w1 ⟨v1, rfl, hv1, b1⟩
  have HV := Lib.hid hv1
  obtain ⟨va, vn, vc, rfl⟩ := hv1.form
  have HS : Hid (w1.heap[w.heap.size + 1]? = some (.cells #[.int .u8 0, .int .u8 0, .int .u8 0] 40 (0, 0))) := by refine (b1.block _ (by simp)).trans ?_; exact heap_new_at _ _ _ (by simp)
  have HB : Hid (w1.heap[w.heap.size]? = some (.cells #[.int .u8 0, .int .u8 0, .int .u8 0] 40 (0, 0))) := by refine (b1.block _ (by simp; omega)).trans ?_; exact (by repeat (first | (with_reducible exact HB.out) | (with_reducible exact heap_alloc_new _ _) | (with_reducible refine heap_old ?_) | (with_reducible refine heap_drew ?_) | ((with_reducible refine heap_other ?_ ?_); rotate_left; focus (first | (simp; done) | (simp; omega) | omega))))
  have GG := Lib.hid (RGoes.below (w := w) (E := E) (s := s) (by repeat (first | (with_reducible exact GG.out) | (with_reducible refine RGoes.alloc ?_ _) | (with_reducible refine RGoes.drew ?_) | ((with_reducible refine RGoes.store ?_ HE.out ?_ _); rotate_left; focus (first | (simp; done) | (simp; omega) | omega)))) b1)
  have sz1 : w.heap.size + 1 < w1.heap.size := heap_lt HS.out
  clear b1 hv1
  go_wp2_with fail
  refine (rone_any E s _ _ sidesW wdy_sides HV.out (RGoes.rd (w := w) (by repeat (first | (with_reducible exact GG.out) | (with_reducible refine RGoes.alloc ?_ _) | (with_reducible refine RGoes.drew ?_) | ((with_reducible refine RGoes.store ?_ HE.out ?_ _); rotate_left; focus (first | (simp; done) | (simp; omega) | omega)))))).mono ?_
  rintro e w2 ⟨k1, s1, rfl, r1, l1, g1⟩
  have hS := g1.kept.heap (k := w.heap.size + 1) (by omega) HS.out
  have HB : Hid (w2.heap[w.heap.size]? = some (.cells #[.int .u8 0, .int .u8 0, .int .u8 0] 40 (0, 0))) := g1.kept.heap (by omega) HB.out
  have GG := Lib.hid (RGoes.trans (w := w) (E := E) (s := s) (by repeat (first | (with_reducible exact GG.out) | (with_reducible refine RGoes.alloc ?_ _) | (with_reducible refine RGoes.drew ?_) | ((with_reducible refine RGoes.store ?_ HE.out ?_ _); rotate_left; focus (first | (simp; done) | (simp; omega) | omega)))) g1)
  have t0 := cell_blk (i := 0) hS
  have f0 := free_blk (i := 0) hS
  have R1 := Lib.hid (And.intro r1 l1)
  have HS := Lib.hid hS
  have sz2 : w.heap.size + 1 < w2.heap.size := heap_lt hS
  simp at t0
  clear g1 r1 l1 hS
  go_wp2_with fail
  refine (rZones_any E.R _ (by simp; omega)).mono ?_
  rintro e w3 ⟨v3, rfl, hv3, b3⟩
  have HV := Lib.hid hv3
  obtain ⟨va, vn, vc, rfl⟩ := hv3.form
  have HS := Lib.hid ((b3.block (w.heap.size + 1) (by simp; omega)).trans (heap_set_to HS.out rfl))
  have HB : Hid (w3.heap[w.heap.size]? = some (.cells #[.int .u8 0, .int .u8 0, .int .u8 0] 40 (0, 0))) := by refine (b3.block _ (by simp; omega)).trans ?_; exact (by repeat (first | (with_reducible exact HB.out) | (with_reducible exact heap_alloc_new _ _) | (with_reducible refine heap_old ?_) | (with_reducible refine heap_drew ?_) | ((with_reducible refine heap_other ?_ ?_); rotate_left; focus (first | (simp; done) | (simp; omega) | omega))))
  have GG := Lib.hid (RGoes.below (w := w) (E := E) (s := s1) (by repeat (first | (with_reducible exact GG.out) | (with_reducible refine RGoes.alloc ?_ _) | (with_reducible refine RGoes.drew ?_) | ((with_reducible refine RGoes.store ?_ HE.out ?_ _); rotate_left; focus (first | (simp; done) | (simp; omega) | omega)))) b3)
  have sz3 : w.heap.size + 1 < w3.heap.size := heap_lt HS.out
  clear b3 hv3
  go_wp2_with fail
  refine (rone_any E s1 _ _ zonesW wdy_zones HV.out (RGoes.rd (w := w) (by repeat (first | (with_reducible exact GG.out) | (with_reducible refine RGoes.alloc ?_ _) | (with_reducible refine RGoes.drew ?_) | ((with_reducible refine RGoes.store ?_ HE.out ?_ _); rotate_left; focus (first | (simp; done) | (simp; omega) | omega)))))).mono ?_
  rintro e w4 ⟨k2, s2, rfl, r2, l2, g2⟩
  have hS := g2.kept.heap (k := w.heap.size + 1) (by omega) HS.out
  have HB : Hid (w4.heap[w.heap.size]? = some (.cells #[.int .u8 0, .int .u8 0, .int .u8 0] 40 (0, 0))) := g2.kept.heap (by omega) HB.out
  have GG := Lib.hid (RGoes.trans (w := w) (E := E) (s := s1) (by repeat (first | (with_reducible exact GG.out) | (with_reducible refine RGoes.alloc ?_ _) | (with_reducible refine RGoes.drew ?_) | ((with_reducible refine RGoes.store ?_ HE.out ?_ _); rotate_left; focus (first | (simp; done) | (simp; omega) | omega)))) g2)
  have t1 := cell_blk (i := 1) hS
  have f1 := free_blk (i := 1) hS
  have R2 := Lib.hid (And.intro r2 l2)
  have HS := Lib.hid hS
  have sz4 : w.heap.size + 1 < w4.heap.size := heap_lt hS
  simp at t1
  clear g2 r2 l2 hS
  cases ha : sees E s2 ⟨#[97, 108, 108]⟩ with
  | true =>
    go_wp2_with fail
    refine (rmay_any E s2 _ _ true (by rfl) ha (RGoes.rd (w := w) (by repeat (first | (with_reducible exact GG.out) | (with_reducible refine RGoes.alloc ?_ _) | (with_reducible refine RGoes.drew ?_) | ((with_reducible refine RGoes.store ?_ HE.out ?_ _); rotate_left; focus (first | (simp; done) | (simp; omega) | omega)))))).mono ?_
    rintro e w5 ⟨rfl, g5⟩
    have hS := g5.kept.heap (k := w.heap.size + 1) (by omega) (heap_set_to HS.out rfl)
    have hB : w5.heap[w.heap.size]? = some (.cells #[.int .u8 0, .int .u8 0, .int .u8 0] 40 (0, 0)) := by refine g5.kept.heap (by omega) ?_; exact (by repeat (first | (with_reducible exact HB.out) | (with_reducible exact heap_alloc_new _ _) | (with_reducible refine heap_old ?_) | (with_reducible refine heap_drew ?_) | ((with_reducible refine heap_other ?_ ?_); rotate_left; focus (first | (simp; done) | (simp; omega) | omega))))
    have GG := Lib.hid (RGoes.trans (w := w) (E := E) (s := s2) (by repeat (first | (with_reducible exact GG.out) | (with_reducible refine RGoes.alloc ?_ _) | (with_reducible refine RGoes.drew ?_) | ((with_reducible refine RGoes.store ?_ HE.out ?_ _); rotate_left; focus (first | (simp; done) | (simp; omega) | omega)))) g5)
    obtain ⟨p, rfl, ht⟩ := sees_yes ha
    have GG : Hid (RGoes w E (.ok (p + 1)) w5) := GG
    have R5 : Hid (Res (pOne E.ts selKindsW) (.ok p) 0 (.ok (p + 1))) := Res.of_ok (selKinds_all E.ts ht)
    have sz5 : w.heap.size + 1 < w5.heap.size := heap_lt hS
    have e0 := cell_blk (i := 0) hB
    have e1 := cell_blk (i := 1) hB
    have e2 := cell_blk (i := 2) hB
    have ef0 := free_blk (i := 0) hB
    have ef1 := free_blk (i := 1) hB
    have ef2 := free_blk (i := 2) hB
    simp at e0 e1 e2
    have c0 := cell_blk (i := 0) hS
    have c1 := cell_blk (i := 1) hS
    have c2 := cell_blk (i := 2) hS
    have cf0 := free_blk (i := 0) hS
    have cf1 := free_blk (i := 1) hS
    have cf2 := free_blk (i := 2) hS
    simp at c0 c1 c2
    clear g5 hS hB ha ht
    go_wp2
    refine bodyPost_ret (v := .agg #[.int .u8 k1, .int .u8 k2, .int .u8 0]) (by simp [results, Tryz.results85, go_sem, e0, e1, e2]) rfl ?_
    exact ⟨⟨k1, k2, 0⟩, .ok (p + 1), rfl, Res.bind R1.out.1 (Res.bind R2.out.1 (Res.map _ R5.out)), (by repeat (first | (with_reducible exact GG.out) | (with_reducible refine RGoes.alloc ?_ _) | (with_reducible refine RGoes.drew ?_) | ((with_reducible refine RGoes.store ?_ HE.out ?_ _); rotate_left; focus (first | (simp; done) | (simp; omega) | omega))))⟩
  | false =>
    go_wp2_with fail
    refine (rmay_any E s2 _ _ false (by rfl) ha (RGoes.rd (w := w) (by repeat (first | (with_reducible exact GG.out) | (with_reducible refine RGoes.alloc ?_ _) | (with_reducible refine RGoes.drew ?_) | ((with_reducible refine RGoes.store ?_ HE.out ?_ _); rotate_left; focus (first | (simp; done) | (simp; omega) | omega)))))).mono ?_
    rintro e w5 ⟨rfl, g5⟩
    have hss : s2.step false = s2 := by cases s2 <;> rfl
    rw [hss] at g5
    have HS := Lib.hid (g5.kept.heap (k := w.heap.size + 1) (by omega) (heap_set_to HS.out rfl))
    have HB : Hid (w5.heap[w.heap.size]? = some (.cells #[.int .u8 0, .int .u8 0, .int .u8 0] 40 (0, 0))) := by refine g5.kept.heap (by omega) ?_; exact (by repeat (first | (with_reducible exact HB.out) | (with_reducible exact heap_alloc_new _ _) | (with_reducible refine heap_old ?_) | (with_reducible refine heap_drew ?_) | ((with_reducible refine heap_other ?_ ?_); rotate_left; focus (first | (simp; done) | (simp; omega) | omega))))
    have GG := Lib.hid (RGoes.trans (w := w) (E := E) (s := s2) (by repeat (first | (with_reducible exact GG.out) | (with_reducible refine RGoes.alloc ?_ _) | (with_reducible refine RGoes.drew ?_) | ((with_reducible refine RGoes.store ?_ HE.out ?_ _); rotate_left; focus (first | (simp; done) | (simp; omega) | omega)))) g5)
    have sz5 : w.heap.size + 1 < w5.heap.size := heap_lt HS.out
    have HA := Lib.hid ha
    clear g5 ha hss
    go_wp2_with fail
    refine (rKinds_any E.R _ (by omega)).mono ?_
    rintro e w6 ⟨v6, rfl, hv6, b6⟩
    have HV := Lib.hid hv6
    obtain ⟨va, vn, vc, rfl⟩ := hv6.form
    have HS := Lib.hid ((b6.block (w.heap.size + 1) (by omega)).trans HS.out)
    have HB : Hid (w6.heap[w.heap.size]? = some (.cells #[.int .u8 0, .int .u8 0, .int .u8 0] 40 (0, 0))) := (b6.block _ (by omega)).trans HB.out
    have GG := Lib.hid (RGoes.below (w := w) (E := E) (s := s2) (by repeat (first | (with_reducible exact GG.out) | (with_reducible refine RGoes.alloc ?_ _) | (with_reducible refine RGoes.drew ?_) | ((with_reducible refine RGoes.store ?_ HE.out ?_ _); rotate_left; focus (first | (simp; done) | (simp; omega) | omega)))) b6)
    have sz6 : w.heap.size + 1 < w6.heap.size := heap_lt HS.out
    clear b6 hv6
    go_wp2_with fail
    refine (rone_any E s2 _ _ kindsW wdy_kinds HV.out (RGoes.rd (w := w) (by repeat (first | (with_reducible exact GG.out) | (with_reducible refine RGoes.alloc ?_ _) | (with_reducible refine RGoes.drew ?_) | ((with_reducible refine RGoes.store ?_ HE.out ?_ _); rotate_left; focus (first | (simp; done) | (simp; omega) | omega)))))).mono ?_
    rintro e w7 ⟨k3, s3, rfl, r3, l3, g3⟩
    have hS := g3.kept.heap (k := w.heap.size + 1) (by omega) HS.out
    have hB := g3.kept.heap (k := w.heap.size) (by omega) HB.out
    have GG := Lib.hid (RGoes.trans (w := w) (E := E) (s := s2) (by repeat (first | (with_reducible exact GG.out) | (with_reducible refine RGoes.alloc ?_ _) | (with_reducible refine RGoes.drew ?_) | ((with_reducible refine RGoes.store ?_ HE.out ?_ _); rotate_left; focus (first | (simp; done) | (simp; omega) | omega)))) g3)
    have sz7 : w.heap.size + 1 < w7.heap.size := heap_lt hS
    have R3 : Hid (Res (pOne E.ts selKindsW) s2 (k3 + 1) s3) := by
      have h0 := Res.map (· + 1) r3
      cases s2 with
      | bad x l c => exact h0
      | ok p => exact h0.congr fun q hq => by cases hq; exact (selKinds_other E.ts (sees_no HA.out)).symm
    have hk0 : (0 : Int) ≤ (k3 : Int) := by omega
    have hk1 : (k3 : Int) + 1 ≤ 255 := by have : k3 < 5 := l3; omega
    have e0 := cell_blk (i := 0) hB
    have e1 := cell_blk (i := 1) hB
    have e2 := cell_blk (i := 2) hB
    have ef0 := free_blk (i := 0) hB
    have ef1 := free_blk (i := 1) hB
    have ef2 := free_blk (i := 2) hB
    simp at e0 e1 e2
    have c0 := cell_blk (i := 0) hS
    have c1 := cell_blk (i := 1) hS
    have c2 := cell_blk (i := 2) hS
    have cf0 := free_blk (i := 0) hS
    have cf1 := free_blk (i := 1) hS
    have cf2 := free_blk (i := 2) hS
    simp at c0 c1 c2
    clear g3 r3 l3 hS hB
    go_wp2
    refine bodyPost_ret (v := .agg #[.int .u8 k1, .int .u8 k2, .int .u8 ((k3 : Int) + 1)]) (by simp [results, Tryz.results85, go_sem, e0, e1, e2]) rfl ?_
    exact ⟨⟨k1, k2, k3 + 1⟩, s3, rfl, Res.bind R1.out.1 (Res.bind R2.out.1 (Res.map _ R3.out)), (by repeat (first | (with_reducible exact GG.out) | (with_reducible refine RGoes.alloc ?_ _) | (with_reducible refine RGoes.drew ?_) | ((with_reducible refine RGoes.store ?_ HE.out ?_ _); rotate_left; focus (first | (simp; done) | (simp; omega) | omega))))⟩
end Go.Proofs.YtmhpopkbmnhkkaaGreatDoor
