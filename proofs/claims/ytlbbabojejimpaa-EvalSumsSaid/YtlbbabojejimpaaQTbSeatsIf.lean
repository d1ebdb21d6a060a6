import Derived.Test.YtlbbabojejimpaaQTbC
import Derived.Test.YtlbbabojejimpaaQTbPieceIf
/- board: places: plain; take, unbroken that say no. -/
namespace Go.Proofs.Ytlbbabojejimpaa
open Go.RowKit Go.Lib

/-- What placesMay asks of pieces, of players, in zones. -/
structure SeatQ (l : List Pc) : Prop where
  nul : ∀ p ∈ l, p.zn = 7 → p.pl = 0
  room : ∀ p ∈ l, p.zn ≠ 7 → 0 ≤ p.pl ∧ p.pl < roomN p.zn
  uniq : ∀ p ∈ l, p.zn ≠ 7 → l.countP (atP (keyH p) p.zn p.pl.toNat) = 1
theorem SeatQ.nil : SeatQ [] := ⟨fun _ h => (by cases h), fun _ h => (by cases h), fun _ h => (by cases h)⟩
theorem SeatQ.snoc {l : List Pc} {p : Pc} (h : SeatQ l) (h7 : p.zn = 7 → p.pl = 0) (hr : p.zn ≠ 7 → 0 ≤ p.pl ∧ p.pl < roomN p.zn) (hf : p.zn ≠ 7 → l.any (atP (keyH p) p.zn p.pl.toNat) = false) : SeatQ (l ++ [p]) := by
  refine ⟨fun q hq => ?_, fun q hq => ?_, fun q hq hz => ?_⟩
  · rcases List.mem_append.1 hq with hq | hq
    · exact h.nul q hq
    · rw [List.mem_singleton.1 hq]; exact h7
  · rcases List.mem_append.1 hq with hq | hq
    · exact h.room q hq
    · rw [List.mem_singleton.1 hq]; exact hr
  · rw [List.countP_append]
    rcases List.mem_append.1 hq with hq | hq
    · have h1 := h.uniq q hq hz
      have hno : atP (keyH q) q.zn q.pl.toNat p = false := by
        apply Bool.eq_false_iff.2
        intro hc
        simp only [atP, Bool.and_eq_true, beq_iff_eq] at hc
        have hz' : p.zn ≠ 7 := by rw [hc.1.2]; exact hz
        have h2 := List.any_eq_false.1 (hf hz') q hq
        have h3 := h.room q hq hz
        apply h2
        simp only [atP, Bool.and_eq_true, beq_iff_eq]
        refine ⟨⟨hc.1.1.symm, hc.1.2.symm⟩, ?_⟩
        omega
      simp [hno, h1]
    · obtain rfl := List.mem_singleton.1 hq
      have h1 : l.countP (atP (keyH q) q.zn q.pl.toNat) = 0 := by
        rw [List.countP_eq_zero]
        exact fun x hx => by simpa using List.any_eq_false.1 (hf hz) x hx
      have h2 : atP (keyH q) q.zn q.pl.toNat q = true := by
        have := hr hz
        simp only [atP, Bool.and_eq_true, beq_iff_eq]
        exact ⟨⟨trivial, trivial⟩, by omega⟩
      simp [h1, h2]
/-- In piles no place is left out. -/
def FullQ (l : List Pc) (q : Nat) : Prop := ∀ z a, pileB z = true → a < l.countP (atZ q z) → l.any (atP q z a) = true

theorem sub_len : ∀ (A L : List Nat), A.Nodup → (∀ a ∈ A, a ∈ L) → A.length ≤ L.length
  | [], L, _, _ => Nat.zero_le _
  | x :: A, L, hn, hs => by
    have hx := hs x List.mem_cons_self
    have hn' := List.nodup_cons.1 hn
    have := sub_len A (L.erase x) hn'.2 fun a ha => (List.mem_erase_of_ne (by rintro rfl; exact hn'.1 ha)).2 (hs a (List.mem_cons_of_mem _ ha))
    rw [List.length_erase_of_mem hx] at this
    have hp := List.length_pos_of_mem hx
    simp only [List.length_cons]
    omega
theorem key_not6 {p : Pc} (h : p.zn ≠ 6) : keyH p = p.hs := if_neg h
theorem atZ_inZ {q z : Nat} (h6 : z ≠ 6) (p : Pc) : atZ q z p = inZ q z p := by
  by_cases hz' : p.zn = z
  · have hk : keyH p = p.hs := if_neg (by rw [hz']; exact h6)
    simp [atZ, inZ, hk, Bool.and_comm]
  · have : (p.zn == z) = false := by simpa using hz'
    simp [atZ, inZ, this]
/-- A table's pieces that are so may be. -/
theorem good_of {xs : List Cd} {ps : List Pc} (hf : ps.length ≤ 144) (hp : ∀ p ∈ ps, PieceQ xs.length p) (hz : ∀ p ∈ ps, ZoneQ (kindI xs p.df) p) (hs : SeatQ ps) (h0 : FullQ ps 0) (h1 : FullQ ps 1) : GoodB xs ps := by
  have hrow : ∀ p ∈ ps, p.zn = 2 ∨ p.zn = 3 → 0 ≤ p.pl ∧ p.pl < 5 := fun p hm h => by
    have := hs.room p hm (by omega)
    have e : roomN p.zn = 5 := if_pos h
    rw [e] at this
    exact this
  have hnul : ∀ p ∈ ps, p.zn = 6 ∨ p.zn = 7 → p.pl = 0 := fun p hm h => by
    rcases h with h | h
    · have := hs.room p hm (by omega)
      rw [h] at this
      have e : roomN 6 = 1 := rfl
      omega
    · exact hs.nul p hm h
  refine ⟨hf, fun p hm => ⟨(hp p hm).df, (hp p hm).ow, (hp p hm).hs, (hp p hm).zn, (hz p hm).sh, (hp p hm).ak, (hp p hm).gd, hrow p hm, hnul p hm, (hz p hm).unit, (hz p hm).back, (hz p hm).tok, (hz p hm).not⟩, fun p hm h6 h7 => ?_, fun p hm h6 h7 hsh => ?_, ?_⟩
  · have h := hs.uniq p hm h7
    have hr := hs.room p hm h7
    rw [key_not6 h6] at h
    rw [← h]
    apply List.countP_congr
    intro q hq
    by_cases hzq : q.zn = p.zn
    · have hk : keyH q = q.hs := key_not6 (by omega)
      simp only [inP, inZ, atP, hk, Bool.and_eq_true, beq_iff_eq]
      constructor
      · rintro ⟨⟨a, b⟩, c⟩; exact ⟨⟨b, a⟩, by omega⟩
      · rintro ⟨⟨a, b⟩, c⟩; exact ⟨⟨b, a⟩, by omega⟩
    · simp [inP, inZ, atP, hzq]
  · have hr := hs.room p hm h7
    refine ⟨hr.1, ?_⟩
    have hw : p.hs < 2 := by have := (hp p hm).hs; omega
    have hpile : pileB p.zn = true := by
      rcases eight (hp p hm).zn with e | e | e | e | e | e | e | e <;> rw [e] at hsh ⊢ <;> first | rfl | (simp [sharedB] at hsh; done) | omega
    have hfull : FullQ ps p.hs := by
      rcases (show p.hs = 0 ∨ p.hs = 1 by omega) with e | e <;> rw [e] <;> assumption
    have hcount : ps.countP (inZ p.hs p.zn) = ps.countP (atZ p.hs p.zn) := List.countP_congr fun q _ => by rw [atZ_inZ h6]
    apply Decidable.byContradiction
    intro hno
    obtain ⟨L, hL⟩ : ∃ L, L = ((ps.filter (inZ p.hs p.zn)).map fun p => p.pl.toNat) := ⟨_, rfl⟩
    have hlen : L.length = ps.countP (inZ p.hs p.zn) := by rw [hL, List.length_map, List.countP_eq_length_filter]
    have := sub_len (p.pl.toNat :: List.range (ps.countP (inZ p.hs p.zn))) L (List.nodup_cons.2 ⟨by simp; omega, List.nodup_range⟩) (by
      intro a ha
      rcases List.mem_cons.1 ha with rfl | ha
      · rw [hL]
        exact List.mem_map.2 ⟨p, List.mem_filter.2 ⟨hm, by simp [inZ]⟩, rfl⟩
      · have ha := List.mem_range.1 ha
        rw [hcount] at ha
        obtain ⟨q, hq, hqa⟩ := List.any_eq_true.1 (hfull p.zn a hpile ha)
        simp only [atP, Bool.and_eq_true, beq_iff_eq] at hqa
        have hk : keyH q = q.hs := key_not6 (by omega)
        rw [hL]
        exact List.mem_map.2 ⟨q, List.mem_filter.2 ⟨hq, by simp [inZ]; omega⟩, by omega⟩)
    rw [hlen] at this
    simp at this
    omega
  · by_cases hx : ∃ p ∈ ps, p.zn = 6
    · obtain ⟨p, hm, h6⟩ := hx
      have h := hs.uniq p hm (by omega)
      have hp0 := hnul p hm (.inl h6)
      have hk : keyH p = 0 := if_pos h6
      rw [hk, h6, hp0] at h
      refine Nat.le_of_eq (Eq.trans (List.countP_congr fun q hq => ?_) h)
      by_cases h6q : q.zn = 6
      · have hq0 := hnul q hq (.inl h6q)
        have hkq : keyH q = 0 := if_pos h6q
        simp [atP, h6q, hq0, hkq]
      · simp [atP, h6q]
    · have : ps.countP (fun p => p.zn == 6) = 0 := by
        rw [List.countP_eq_zero]
        intro q hq hc
        exact hx ⟨q, hq, by simpa using hc⟩
      omega

set_option maxHeartbeats 2000000 in
theorem btake_out (G B r : Nat) (a : Int) (w : World) (ha : ¬ (0 ≤ a ∧ a < r)) :
    Calls Try.prog 32 #[.pointer (some ⟨G, B, none⟩), .int .i64 a, .int .i64 r] w fun e w' => e = .returned (.bool false) ∧ w' = w := by
  by_cases h1 : a < 0
  · clear ha
    go_enter Try.func32, Try.ntmps32
    go_wp2_with fail
    go_ret
    exact ⟨rfl, rfl⟩
  · have h2 : a ≥ (r : Int) := by omega
    clear ha
    go_enter Try.func32, Try.ntmps32
    go_wp2_with fail
    go_ret
    exact ⟨rfl, rfl⟩
set_option maxHeartbeats 2000000 in
theorem btake_no (G B a r : Nat) (w : World) (ha : a < r) (hc0 : w.cell? ⟨G, B + a, none⟩ = some (.bool true)) (hr : r ≤ 144) :
    Calls Try.prog 32 #[.pointer (some ⟨G, B, none⟩), .int .i64 a, .int .i64 r] w fun e w' => e = .returned (.bool false) ∧ w' = w := by
  have i0 : ¬ ((a : Int) < 0) := by omega
  have i1 : ¬ ((a : Int) ≥ (r : Int)) := by omega
  have i2 : (a : Int) < 144 := by omega
  have i3 : (0 : Int) ≤ (a : Int) := by omega
  go_enter Try.func32, Try.ntmps32
  go_wp2_with fail
  go_ret
  exact ⟨rfl, rfl⟩
/-- What take does for any piece that comes up. -/
theorem take_seat_any {w : World} {G : Nat} {l : List Pc} {p : Pc} (t : Taken w G l) (hk : keyH p < 2) (hz : p.zn < 7) (hl : l.length ≤ 144) :
    Calls Try.prog 32 #[.pointer (some ⟨G, keyH p * 1015 + p.zn * 145, none⟩), .int .i64 p.pl, .int .i64 (roomN p.zn)] w fun e w' => (∃ b, e = .returned (.bool b) ∧ (b = true → Taken w' G (l ++ [p]) ∧ (0 ≤ p.pl ∧ p.pl < roomN p.zn) ∧ l.any (atP (keyH p) p.zn p.pl.toNat) = false)) ∧ Kept G w w' := by
  have hroom : roomN p.zn ≤ 144 := by unfold roomN; split <;> (try split) <;> omega
  by_cases hin : 0 ≤ p.pl ∧ p.pl < roomN p.zn
  · obtain ⟨a, ha⟩ : ∃ a : Nat, p.pl = a := ⟨p.pl.toNat, by omega⟩
    have hat : p.pl.toNat = a := by omega
    rw [hat]
    cases hany : l.any (atP (keyH p) p.zn a) with
    | false =>
      rw [ha]
      refine (take_seat t ha (by omega) hk hz hany hl).mono ?_
      rintro e w' ⟨rfl, t', k'⟩
      exact ⟨⟨true, rfl, fun _ => ⟨t', by omega, rfl⟩⟩, k'⟩
    | true =>
      have hc := t.cells hk hz (a := a) (by omega)
      rw [hany] at hc
      have e1 : ∀ b, keyH p * 1015 + p.zn * 145 + b = (keyH p * 7 + p.zn) * 145 + b := fun b => by omega
      rw [ha]
      refine (btake_no G (keyH p * 1015 + p.zn * 145) a (roomN p.zn) w (by omega) (by rw [e1]; exact hc.1) hroom).mono ?_
      rintro e w' ⟨rfl, rfl⟩
      exact ⟨⟨false, rfl, fun h => by cases h⟩, Kept.refl _ _⟩
  · refine (btake_out G (keyH p * 1015 + p.zn * 145) (roomN p.zn) p.pl w hin).mono ?_
    rintro e w' ⟨rfl, rfl⟩
    exact ⟨⟨false, rfl, fun h => by cases h⟩, Kept.refl _ _⟩

set_option maxHeartbeats 1000000 in
theorem bindex_first (G B n cap j : Nat) (w : World) (hj : j < n) (h : ∀ i, i < j → w.cell? ⟨G, B + i, none⟩ = some (.bool true)) (hf : w.cell? ⟨G, B + j, none⟩ = some (.bool false)) (hn : n ≤ 1000) :
    Calls Try.prog 51 #[.slice (some ⟨G, B, none⟩) n cap, .bool false] w fun e w' => e = .returned (.int .i64 j) ∧ w' = w := by
  have H := Lib.hid h
  clear h
  go_enter Try.func51, Try.ntmps51
  go_wp2
  go_loopw [8] (fun vi wr => ∃ k : Nat, vi = .int .i64 k ∧ k ≤ j ∧ wr = w) (fun vi _ => n - (RowKit.intOf vi).toNat)
  case atStart => exact ⟨0, by rfl, by omega, rfl⟩
  case round =>
    obtain ⟨k, rfl, hk, rfl⟩ := hrel
    have i0 : (0 : Int) ≤ (k : Int) := by omega
    have i1 : (k : Int) < (n : Int) := by omega
    by_cases hlt : k < j
    · have c0 := H.out k hlt
      go_wp2
      go_roundw
      case rel => exact ⟨k + 1, by go_num, by omega, by first | trivial | rfl⟩
      case measure => simp [RowKit.intOf]; omega
    · obtain rfl : k = j := by omega
      go_wp2
      go_ret
      exact ⟨rfl, rfl⟩
set_option maxHeartbeats 1000000 in
theorem bcontains_first (G B n cap j : Nat) (w : World) (hj : j < n) (h : ∀ i, i < j → w.cell? ⟨G, B + i, none⟩ = some (.bool true)) (hf : w.cell? ⟨G, B + j, none⟩ = some (.bool false)) (hn : n ≤ 1000) :
    Calls Try.prog 42 #[.slice (some ⟨G, B, none⟩) n cap, .bool false] w fun e w' => e = .returned (.bool true) ∧ w' = w := by
  have H := Lib.hid (bindex_first G B n cap j w hj h hf hn)
  clear h hf
  have hj0 : (j : Int) ≥ 0 := by omega
  go_enter Try.func42, Try.ntmps42
  go_wp2_with fail
  refine H.out.mono ?_
  rintro e w1 ⟨rfl, rfl⟩
  go_wp2_with fail
  go_ret
  exact ⟨rfl, rfl⟩
theorem first_false (g : Nat → Bool) : ∀ n, (∀ i, i < n → g i = true) ∨ ∃ j, j < n ∧ (∀ i, i < j → g i = true) ∧ g j = false
  | 0 => .inl (fun i h => absurd h (Nat.not_lt_zero i))
  | n + 1 => by
    rcases first_false g n with h | ⟨j, hj, h1, h2⟩
    · cases hg : g n with
      | true =>
        refine .inl fun i hi => ?_
        by_cases e : i = n
        · rw [e]; exact hg
        · exact h i (by omega)
      | false => exact .inr ⟨n, by omega, h, hg⟩
    · exact .inr ⟨j, by omega, h1, h2⟩

/-- A player's zones, as they lie. -/
structure ZonesAt (w : World) (G B : Nat) (f : Nat → Nat) (g : Nat → Nat → Bool) : Prop where
  few : ∀ z, z < 7 → f z ≤ 144
  count : ∀ z, z < 7 → w.cell? ⟨G, B + z * 145 + 144, none⟩ = some (.int .i64 (f z))
  cells : ∀ z, z < 7 → ∀ a, a < 144 → w.cell? ⟨G, B + z * 145 + a, none⟩ = some (.bool (g z a))
theorem ZonesAt.drewN {w : World} {G B : Nat} {f : Nat → Nat} {g : Nat → Nat → Bool} (h : ZonesAt w G B f g) (n : Nat) : ZonesAt (w.drewN n) G B f g := ⟨h.few, fun z hz => h.count z hz, fun z hz a ha => h.cells z hz a ha⟩
theorem ZonesAt.ok {w : World} {G B : Nat} {f : Nat → Nat} {g : Nat → Nat → Bool} (h : ZonesAt w G B f g) (hf : ∀ z, z < 7 → pileB z = true → ∀ a, a < f z → g z a = true) : ZonesOk w G B f :=
  ⟨h.few, h.count, fun z hz hp a ha => by rw [h.cells z hz a (by have := h.few z hz; omega), hf z hz hp a ha]⟩

set_option maxHeartbeats 4000000 in
theorem bunbroken_no (G B : Nat) (f : Nat → Nat) (g : Nat → Nat → Bool) (w : World) (h : ZonesAt w G B f g) (hn : ¬ ∀ z, z < 7 → pileB z = true → ∀ a, a < f z → g z a = true) :
    Calls Try.prog 34 #[.pointer (some ⟨G, B, none⟩)] w fun e w' => e = .returned (.bool false) ∧ ∃ m, w' = w.drewN m := by
  have H := Lib.hid h
  have HN := Lib.hid hn
  clear h hn
  go_enter Try.func34, Try.ntmps34
  go_wp2_with fail
  go_loopw [5] (fun vi wr => ∃ k m : Nat, vi = .int .i64 k ∧ k ≤ 7 ∧ (∀ z, z < k → pileB z = true → ∀ a, a < f z → g z a = true) ∧ wr = w.drewN m) (fun vi _ => 7 - (RowKit.intOf vi).toNat)
  case atStart => exact ⟨0, 0, by rfl, by omega, fun z hz => by omega, rfl⟩
  case round =>
    obtain ⟨k, m, rfl, hk, hso, hwr⟩ := hrel
    have HW := Lib.hid hwr
    have HS := Lib.hid hso
    clear hso
    by_cases hlt : k < 7
    · have HH := H.out.drewN m
      rw [← hwr] at HH
      have hf := HH.few k hlt
      have hcount := HH.count k hlt
      have hall := HH.cells k hlt
      obtain ⟨c, hc⟩ : ∃ c, f k = c := ⟨_, rfl⟩
      have HC := Lib.hid hc
      rw [hc] at hf hcount
      have HA := Lib.hid hall
      clear HH hall hc hwr
      have i0 : (0 : Int) ≤ (k : Int) := by omega
      have i1 : (k : Int) < 7 := by omega
      have j0 : (0 : Int) ≤ (c : Int) := by omega
      have j1 : (c : Int) ≤ 144 := by omega
      have hw : IntKind.u8.wrap (k : Int) = (k : Int) := IntWalk.u8_in _ (by omega)
      have hcp : Hid (∀ n, Calls Try.prog 31 #[.int .u8 k] (wr.drewN n) fun e w' => e = .returned (.bool (pileB k)) ∧ w' = wr.drewN n) := Lib.hid fun n => (bpile_any k (by omega) _).mono fun e w' ⟨he, hw⟩ => ⟨he, hw.symm⟩
      cases hp : pileB k with
      | false =>
        rw [hp] at hcp
        go_wp2_with fail
        go_quiet (refine Calls.quiet_of_same (hcp.out _))
        go_wp2_with fail
        go_roundw
        case rel => exact ⟨k + 1, m + nq, by go_num, by omega, fun z hz hpz => by
          by_cases e : z = k
          · rw [e, hp] at hpz; cases hpz
          · exact HS.out z (by omega) hpz, by rw [HW.out, World.drewN_drewN]⟩
        case measure => simp [RowKit.intOf]; omega
      | true =>
        rw [hp] at hcp
        rcases first_false (g k) c with hfull | ⟨j, hj, hj1, hj2⟩
        · have hcc : Hid (∀ n, Calls Try.prog 42 #[.slice (some ⟨G, B + k * 145, none⟩) c 144, .bool false] (wr.drewN n) fun e w' => e = .returned (.bool false) ∧ w' = wr.drewN n) := Lib.hid fun n => bcontains_all G (B + k * 145) c 144 _ (fun i hi => by have := HA.out i (by omega); rw [hfull i hi] at this; exact this) (by omega)
          have HF := Lib.hid hfull
          clear hfull
          go_wp2_with fail
          go_quiet (first
            | (refine Calls.quiet_of_same (hcp.out _))
            | (refine Calls.quiet_of_same (hcc.out _)))
          go_wp2_with fail
          go_roundw
          case rel => exact ⟨k + 1, m + nq, by go_num, by omega, fun z hz hpz => by
            by_cases e : z = k
            · rw [e, HC.out]; exact HF.out
            · exact HS.out z (by omega) hpz, by rw [HW.out, World.drewN_drewN]⟩
          case measure => simp [RowKit.intOf]; omega
        · have hcc : Hid (∀ n, Calls Try.prog 42 #[.slice (some ⟨G, B + k * 145, none⟩) c 144, .bool false] (wr.drewN n) fun e w' => e = .returned (.bool true) ∧ w' = wr.drewN n) := Lib.hid fun n => bcontains_first G (B + k * 145) c 144 j _ hj (fun i hi => by have := HA.out i (by omega); rw [hj1 i hi] at this; exact this) (by have := HA.out j (by omega); rw [hj2] at this; exact this) (by omega)
          clear hj1 hj2 hj
          go_wp2_with fail
          go_quiet (first
            | (refine Calls.quiet_of_same (hcp.out _))
            | (refine Calls.quiet_of_same (hcc.out _)))
          go_wp2_with fail
          go_ret
          exact ⟨rfl, m + nq, by rw [HW.out, World.drewN_drewN]⟩
    · obtain rfl : k = 7 := by omega
      exact absurd HS.out HN.out
end Go.Proofs.Ytlbbabojejimpaa
