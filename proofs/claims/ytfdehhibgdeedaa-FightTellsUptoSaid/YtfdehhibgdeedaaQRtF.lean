import Derived.Test.YtfdehhibgdeedaaQTbInFew
import Derived.Test.YtfdehhibgdeedaaQTbB
import Derived.Test.YtfdehhibgdeedaaQTbBMayNo
import Derived.Test.YtfdehhibgdeedaaQFtFns
/- joustref06.In: who has what where, by places: of a table that may be; of one that may not. -/
namespace Go.Proofs.Ytfdehhibgdeedaa
open Go.RowKit Go.Lib

def plP (h z A : Nat) (p : Pc) : Bool := p.hs == h && (p.zn == z && p.pl == (A : Int))
def plZ (ps : List Pc) (h z A k : Nat) : Bool := match ps[k]? with
  | some p => plP h z A p
  | none => false
def plTo (ps : List Pc) (h z A k : Nat) : List Nat := (List.range k).filter (plZ ps h z A)
def inTo (ps : List Pc) (h z A : Nat) : List Nat := (List.range A).flatMap fun a => plTo ps h z a ps.length
/-- Who somebody has in a zone, place by place. -/
def inL (ps : List Pc) (h z : Nat) : List Nat := inTo ps h z 144
theorem plTo_next {ps : List Pc} {h z A k : Nat} {p : Pc} (hk : ps[k]? = some p) : plTo ps h z A (k + 1) = plTo ps h z A k ++ (if plP h z A p = true then [k] else []) := by
  unfold plTo
  rw [List.range_succ, List.filter_append]
  congr 1
  simp only [List.filter_cons, List.filter_nil, plZ, hk]
theorem plTo_len {ps : List Pc} {h z A : Nat} (k : Nat) : (plTo ps h z A k).length ≤ k := by
  unfold plTo
  have := List.length_filter_le (plZ ps h z A) (List.range k)
  rwa [List.length_range] at this
theorem inTo_next {ps : List Pc} {h z A : Nat} : inTo ps h z (A + 1) = inTo ps h z A ++ plTo ps h z A ps.length := by
  unfold inTo
  rw [List.range_succ, List.flatMap_append]
  simp
theorem inTo_len {ps : List Pc} {h z : Nat} : ∀ A, (inTo ps h z A).length ≤ A * ps.length
  | 0 => by simp [inTo]
  | A + 1 => by
    rw [inTo_next, List.length_append, Nat.succ_mul]
    have := inTo_len (ps := ps) (h := h) (z := z) A
    have := plTo_len (ps := ps) (h := h) (z := z) (A := A) ps.length
    omega
theorem NatsAt.base {w : World} {b c : Nat} {v : Value} {l : List Nat} (h : NatsAt w b v l) (hc : c ≤ b) : NatsAt w c v l := by
  refine ⟨h.1, ?_⟩
  rcases h.2 with h0 | ⟨g, cap, cur, hv, hbg, r⟩
  · exact .inl h0
  · exact .inr ⟨g, cap, cur, hv, Nat.le_trans hc hbg, r⟩
def RInEnds (l : List Nat) (w : World) (e : Ending) (w' : World) : Prop := (∃ v, e = .returned v ∧ NatsAt w' w.heap.size v l) ∧ Below w.heap.size w w'

set_option maxHeartbeats 4000000 in
set_option maxRecDepth 100000 in
theorem rin_no (t : Tb) (xs : List Cd) (ps : List Pc) (h z : Nat) (w : World) (hT : TabIn w t xs ps) (hN : ¬ (LifeOk t ∧ GoodB xs ps)) :
    Calls Try.prog 30 #[.agg t.row, .int .u8 h, .int .u8 z] w (RInEnds [] w) := by
  have hmay := Lib.hid fun (W : World) (hb : Below w.heap.size w W) => rmay_no t xs ps W (hT.below hb) hN
  clear hT hN
  obtain ⟨w0, hw0⟩ : ∃ w0, w0 = w.alloc (.cells t.row 28) := ⟨_, rfl⟩
  have hb0 : Below w.heap.size w w0 := by rw [hw0]; exact (Below.refl _ _).alloc (Nat.le_refl _) _
  have HB0 := Lib.hid hb0
  have HW0 := Lib.hid hw0
  clear hb0 hw0
  simp only [Tb.row] at *
  go_enter Try.func30, Try.ntmps30
  go_wp2_with fail
  rw [← HW0.out]
  (with_reducible refine (hmay.out _ HB0.out).mono ?_)
  rintro e w1 ⟨rfl, b1⟩
  have HB1 := Lib.hid (HB0.out.trans (b1.mono HB0.out.size))
  clear b1
  go_wp2_with fail
  go_ret
  exact ⟨⟨_, rfl, World.ownsRow_nil _ _ _ _⟩, HB1.out⟩

set_option maxHeartbeats 16000000 in
set_option maxRecDepth 100000 in
theorem rin_any (t : Tb) (xs : List Cd) (ps : List Pc) (h z : Nat) (w : World) (hT : TabIn w t xs ps) (hL : LifeOk t) (hG : GoodB xs ps) :
    Calls Try.prog 30 #[.agg t.row, .int .u8 h, .int .u8 z] w (RInEnds (inL ps h z) w) := by
  obtain ⟨i0, hi0, hz0, hz1, hz2⟩ := info_parts int_info
  have HN := Lib.hid hT.np.1
  have HT := Lib.hid hT
  have hpn : t.np ≤ 144 := by rw [hT.np.1]; exact hG.few
  have hmay := Lib.hid fun (W : World) (hb : Below w.heap.size w W) => rmay_yes t xs ps W (hT.below hb) hL hG
  clear hT hL hG
  obtain ⟨w0, hw0⟩ : ∃ w0, w0 = w.alloc (.cells t.row 28) := ⟨_, rfl⟩
  have hb0 : Below w.heap.size w w0 := by rw [hw0]; exact (Below.refl _ _).alloc (Nat.le_refl _) _
  have hx0 : w0.heap[w.heap.size]? = some (.cells t.row 28 (0, 0)) := by rw [hw0]; exact heap_alloc_new _ _
  have HB0 := Lib.hid hb0
  have HX0 := Lib.hid hx0
  have HW0 := Lib.hid hw0
  clear hb0 hx0 hw0
  simp only [Tb.row] at *
  go_enter Try.func30, Try.ntmps30
  go_wp2_with fail
  rw [← HW0.out]
  (with_reducible refine (hmay.out _ HB0.out).mono ?_)
  rintro e w1 ⟨rfl, b1⟩
  have HB1 := Lib.hid (show Below w0.heap.size w0 w1 from b1)
  clear b1
  go_wp2_with fail
  go_loopw [7, 8] (fun vl va wr => ∃ (A : Nat) (a : Option Addr) (n c : Nat), va = .int .i64 A ∧ A ≤ 144 ∧ vl = .slice a n c ∧ n = (inTo ps h z A).length ∧ NatsAt wr w0.heap.size (.slice a n c) (inTo ps h z A) ∧ Below w0.heap.size w0 wr) (fun _ va _ => 144 - (RowKit.intOf va).toNat)
  case atStart => exact ⟨0, none, 0, 0, by rfl, by omega, rfl, by simp [inTo], World.ownsRow_nil _ _ _ _, HB1.out⟩
  case round =>
    obtain ⟨A, a, n, c, rfl, hA, rfl, hn, hown, hbw⟩ := hrel
    rename World => wA
    have HBA := Lib.hid hbw
    have HOA := Lib.hid hown
    have HNA := Lib.hid hn
    clear hn hown hbw
    by_cases hltA : A < 144
    · have a0 : (0 : Int) ≤ (A : Int) := by omega
      have a1 : (A : Int) < 144 := by omega
      have HLA : Hid ((inTo ps h z A).length ≤ 20736) := Lib.hid (by
        have h1 := inTo_len (ps := ps) (h := h) (z := z) A
        have h2 : A * ps.length ≤ 144 * 144 := Nat.mul_le_mul (by omega) (by rw [← HN.out]; exact hpn)
        omega)
      go_wp2_with fail
      go_loopw [7, 9] (fun vl vk wr => ∃ (k : Nat) (a : Option Addr) (n c : Nat), vk = .int .i64 k ∧ k ≤ t.np ∧ vl = .slice a n c ∧ n = (inTo ps h z A ++ plTo ps h z A k).length ∧ NatsAt wr w0.heap.size (.slice a n c) (inTo ps h z A ++ plTo ps h z A k) ∧ Below w0.heap.size w0 wr) (fun _ vk _ => t.np - (RowKit.intOf vk).toNat)
      case atStart => exact ⟨0, a, n, c, by rfl, by omega, rfl, by simpa [plTo] using HNA.out, by simpa [plTo] using HOA.out, HBA.out⟩
      case round =>
        obtain ⟨k, a, n, c, rfl, hk, rfl, hn, hown, hbw⟩ := hrel
        rename World => wD
        have HBD := Lib.hid hbw
        have HBw : Hid (Below w.heap.size w wD) := Lib.hid (HB0.out.trans (hbw.mono HB0.out.size))
        have HXD := Lib.hid ((hbw.block _ (heap_lt HX0.out)).trans HX0.out)
        have hltX := heap_lt HXD.out
        have HO := Lib.hid hown
        have HNL := Lib.hid hn
        have hnb : n ≤ 30000 := by
          have h1 := HLA.out
          have h2 := plTo_len (ps := ps) (h := h) (z := z) (A := A) k
          rw [List.length_append] at hn
          omega
        have y1 := cell_blk (i := 1) HXD.out
        simp at y1
        clear hn hown hbw
        by_cases hlt : k < t.np
        · obtain ⟨p, hp⟩ : ∃ p, ps[k]? = some p := ⟨ps[k]'(by rw [← HN.out]; exact hlt), List.getElem?_eq_getElem _⟩
          obtain ⟨g, o, hq, hg, hc⟩ := HT.out.piece hp
          have hc := fun j u hu => cell_later HBw.out (hc j u hu)
          have hgD : g < wD.heap.size := Nat.lt_of_lt_of_le hg HBw.out.size
          have c0 := hc 0 _ rfl
          have c1 := hc 1 _ rfl
          have c2 := hc 2 _ rfl
          have c3 := hc 3 _ rfl
          have c4 := hc 4 _ rfl
          have c5 := hc 5 _ rfl
          have c6 := hc 6 _ rfl
          have c7 := hc 7 _ rfl
          have c8 := hc 8 _ rfl
          have c9 := hc 9 _ rfl
          have c10 := hc 10 _ rfl
          have c11 := hc 11 _ rfl
          have c12 := hc 12 _ rfl
          have c13 := hc 13 _ rfl
          simp only [Nat.add_zero] at c0
          have NX := Lib.hid (plTo_next (h := h) (z := z) (A := A) hp)
          have k0 : (0 : Int) ≤ (k : Int) := by omega
          have k1 : (k : Int) < (t.np : Int) := by omega
          clear hc hp hg
          rw [hq] at y1 HXD ⊢
          clear hq
          by_cases e : plP h z A p = true
          rotate_left
          · have HE : Hid (plTo ps h z A (k + 1) = plTo ps h z A k) := Lib.hid (by rw [NX.out, if_neg e, List.append_nil])
            have hal := Lib.hid ((Below.refl wD.heap.size wD).alloc (Nat.le_refl _) (.cells (pcV p).toArray 45))
            simp only [pcV] at hal
            by_cases hh : p.hs = h
            · have e1 : ((p.hs : Int) == (h : Int)) = true := by simp [hh]
              by_cases hz : p.zn = z
              · have e2 : ((p.zn : Int) == (z : Int)) = true := by simp [hz]
                have e3 : (p.pl == (A : Int)) = false := by
                  cases hx : (p.pl == (A : Int)) with
                  | false => rfl
                  | true => exact absurd (by unfold plP; rw [hx]; simp [hh, hz]) e
                clear hh hz e
                go_wp2_with fail
                go_roundw
                case rel => exact ⟨k + 1, a, n, c, by go_num, by omega, rfl, by rw [HE.out]; exact HNL.out, by rw [HE.out]; exact HO.out.below hal.out, HBD.out.trans (hal.out.mono HBD.out.size)⟩
                case measure => simp [RowKit.intOf]; omega
              · have e2 : ((p.zn : Int) == (z : Int)) = false := by simp; omega
                clear hh hz e
                go_wp2_with fail
                go_roundw
                case rel => exact ⟨k + 1, a, n, c, by go_num, by omega, rfl, by rw [HE.out]; exact HNL.out, by rw [HE.out]; exact HO.out.below hal.out, HBD.out.trans (hal.out.mono HBD.out.size)⟩
                case measure => simp [RowKit.intOf]; omega
            · have e1 : ((p.hs : Int) == (h : Int)) = false := by simp; omega
              clear hh e
              go_wp2_with fail
              go_roundw
              case rel => exact ⟨k + 1, a, n, c, by go_num, by omega, rfl, by rw [HE.out]; exact HNL.out, by rw [HE.out]; exact HO.out.below hal.out, HBD.out.trans (hal.out.mono HBD.out.size)⟩
              case measure => simp [RowKit.intOf]; omega
          · have HE : Hid (inTo ps h z A ++ plTo ps h z A (k + 1) = (inTo ps h z A ++ plTo ps h z A k) ++ [k]) := Lib.hid (by rw [NX.out, if_pos e, List.append_assoc])
            obtain ⟨hh, hz, ha⟩ : p.hs = h ∧ p.zn = z ∧ p.pl = (A : Int) := by
              unfold plP at e
              simpa using e
            have e1 : ((p.hs : Int) == (h : Int)) = true := by simp [hh]
            have e2 : ((p.zn : Int) == (z : Int)) = true := by simp [hz]
            have e3 : (p.pl == (A : Int)) = true := by simp [ha]
            clear hh hz ha e
            obtain ⟨L, hLL⟩ : ∃ L, L = inTo ps h z A ++ plTo ps h z A k := ⟨_, rfl⟩
            rw [← hLL] at HO HNL HE
            clear hLL
            obtain ⟨w2, hw2⟩ : ∃ w2, w2 = wD.alloc (.cells (pcV p).toArray 45) := ⟨_, rfl⟩
            have hal : Below w0.heap.size w0 w2 := by rw [hw2]; exact HBD.out.alloc HBD.out.size _
            have hown2 : NatsAt w2 w0.heap.size (.slice a n c) L := by rw [hw2]; exact HO.out.below ((Below.refl _ _).alloc (Nat.le_refl _) _)
            have hown3 : (w2.alloc (.cells #[.int .i64 k] 3)).ownsRow w0.heap.size 3 1 (.slice a n c) n (L.map idV) := by
              have := hown2.below ((Below.refl _ _).alloc (Nat.le_refl _) (.cells #[.int .i64 k] 3))
              unfold NatsAt at this
              rwa [← HNL.out] at this
            have HAL := Lib.hid (hal.alloc hal.size (.cells #[.int .i64 k] 3))
            have HO3 := Lib.hid hown3
            have HW2 := Lib.hid hw2
            have HS2 : Hid (w2.heap.size = wD.heap.size + 1) := Lib.hid (by rw [hw2]; simp)
            have HBK : Hid (∀ j, (Value.slice a n c).ownBlock = some j → w0.heap.size ≤ j) := Lib.hid fun j hj => (World.ownsRow.lt hown3 j hj).1
            clear hal hown2 hown3 hw2
            simp only [pcV] at HW2
            go_wp2_with (at_builtin; rw [← HW2.out]; (refine wpList_append_lies _ rfl (.tmp 46) (.tmp 48) 32 rfl w0.heap.size 3 i0 _ 1 8 Try.underlying32 hi0 hz0 hz1 hz2 rfl (by omega) _ n (L.map idV) rfl HO3.out ⟨wD.heap.size + 1, 0, none⟩ 1 1 [.int .i64 k] rfl rfl (World.news_of_block (cs := #[.int .i64 k]) (t := 3) (fr := (0, 0)) (heap_newer _ _ _ HS2.out)) (by simp [Value.oneCell']) (by omega) (by unfold maxLen; omega) (by omega) HAL.out.size _ rfl ?_; intro g4 cap w5 hown4 hgrow4 hat4 hlt4; have hgr4 : World.grownBy _ w5 (Value.slice a n c).ownBlock := hgrow4))
            have hB5 : Below w0.heap.size w0 w5 := HAL.out.grown hgr4 HAL.out.size (fun j hj => HBK.out j hj)
            have hl2 : (inTo ps h z A ++ plTo ps h z A (k + 1)).length = n + 1 := by rw [HE.out, List.length_append, ← HNL.out]; rfl
            have ho5 : NatsAt w5 w0.heap.size (.slice (some ⟨g4, 0, none⟩) (n + 1) cap) (inTo ps h z A ++ plTo ps h z A (k + 1)) := by
              show World.ownsRow _ _ _ _ _ _ _
              rw [hl2, HE.out]
              simpa [idV] using hown4
            have HO5 := Lib.hid ho5
            have HB5 := Lib.hid hB5
            have HL2 := Lib.hid hl2
            clear ho5 hB5 hl2 hown4 hgrow4 hgr4 hat4
            go_wp2_with fail
            go_roundw
            case rel => exact ⟨k + 1, _, n + 1, cap, by go_num, by omega, rfl, HL2.out.symm, HO5.out, HB5.out⟩
            case measure => simp [RowKit.intOf]; omega
        · obtain rfl : k = t.np := by omega
          have HE : Hid (inTo ps h z A ++ plTo ps h z A t.np = inTo ps h z (A + 1)) := Lib.hid (by rw [inTo_next, HN.out])
          go_wp2_with fail
          go_roundw
          case rel => exact ⟨A + 1, a, n, c, by go_num, by omega, rfl, by rw [← HE.out]; exact HNL.out, by rw [← HE.out]; exact HO.out, HBD.out⟩
          case measure => simp [RowKit.intOf]; omega
    · obtain rfl : A = 144 := by omega
      go_wp2_with fail
      go_ret
      exact ⟨⟨_, rfl, HOA.out.base HB0.out.size⟩, HB0.out.trans (HBA.out.mono HB0.out.size)⟩
end Go.Proofs.Ytfdehhibgdeedaa

/- Plain: the pieces of a Row by places are one list. -/
namespace Go.Proofs.Ytfdehhibgdeedaa
open Go.RowKit Go.Lib

theorem sorted_ext {α : Type} {f : α → Int} : ∀ {l m : List α}, l.Pairwise (fun a b => f a < f b) → m.Pairwise (fun a b => f a < f b) → (∀ x, x ∈ l ↔ x ∈ m) → l = m
  | [], m, _, _, h => by
    cases m with
    | nil => rfl
    | cons y m => exact absurd ((h y).2 List.mem_cons_self) (by simp)
  | x :: l, [], _, _, h => absurd ((h x).1 List.mem_cons_self) (by simp)
  | x :: l, y :: m, hl, hm, h => by
    rw [List.pairwise_cons] at hl hm
    have e : x = y := by
      rcases List.mem_cons.1 ((h x).1 List.mem_cons_self) with e | hx
      · exact e
      · rcases List.mem_cons.1 ((h y).2 List.mem_cons_self) with e | hy
        · exact e.symm
        · have h1 := hm.1 x hx
          have h2 := hl.1 y hy
          omega
    subst e
    rw [sorted_ext hl.2 hm.2 fun z => ?_]
    constructor
    · intro hz
      rcases List.mem_cons.1 ((h z).1 (List.mem_cons_of_mem _ hz)) with e | hz'
      · have := hl.1 z hz
        rw [e] at this
        omega
      · exact hz'
    · intro hz
      rcases List.mem_cons.1 ((h z).2 (List.mem_cons_of_mem _ hz)) with e | hz'
      · have := hm.1 z hz
        rw [e] at this
        omega
      · exact hz'
theorem plTo_mem {ps : List Pc} {h z A n i : Nat} : i ∈ plTo ps h z A n ↔ i < n ∧ ∃ p, ps[i]? = some p ∧ p.hs = h ∧ p.zn = z ∧ p.pl = (A : Int) := by
  unfold plTo
  rw [List.mem_filter, List.mem_range]
  refine and_congr_right fun _ => ?_
  unfold plZ
  cases hp : ps[i]? with
  | none => simp
  | some p => simp [plP]
/-- Two pieces of somebody's in one zone stand at two places. -/
theorem places_two {xs : List Cd} {ps : List Pc} (hG : GoodB xs ps) {h i j : Nat} {p q : Pc} (hi : ps[i]? = some p) (hj : ps[j]? = some q) (hp : p.hs = h ∧ p.zn = 2) (hq : q.hs = h ∧ q.zn = 2) (hij : i < j) : p.pl ≠ q.pl := by
  intro e
  have h1 := hG.uniq p (List.mem_of_getElem? hi) (by omega) (by omega)
  have hs : ps = ps.take (i + 1) ++ ps.drop (i + 1) := (List.take_append_drop _ _).symm
  rw [hs, List.countP_append] at h1
  have a1 : 0 < (ps.take (i + 1)).countP (inP p.hs p.zn p.pl) := List.countP_pos_iff.2 ⟨p, List.mem_of_getElem? (i := i) (by rw [List.getElem?_take_of_lt (by omega)]; exact hi), by simp [inP, inZ]⟩
  have a2 : 0 < (ps.drop (i + 1)).countP (inP p.hs p.zn p.pl) := List.countP_pos_iff.2 ⟨q, List.mem_of_getElem? (i := j - (i + 1)) (by rw [List.getElem?_drop, show i + 1 + (j - (i + 1)) = j by omega]; exact hj), by simp [inP, inZ, hp.1, hp.2, hq.1, hq.2, e]⟩
  omega
theorem inL_sorted {xs : List Cd} {ps : List Pc} (hG : GoodB xs ps) (h : Nat) : (inL ps h 2).Pairwise (fun a b => plI ps a < plI ps b) := by
  unfold inL inTo
  rw [List.pairwise_flatMap]
  constructor
  · intro A _
    have : (plTo ps h 2 A ps.length).Pairwise (fun a b => a < b) := List.Pairwise.filter _ List.pairwise_lt_range
    refine this.imp_of_mem fun {i j} hi hj hij => ?_
    obtain ⟨-, p, hp, h1, h2, h3⟩ := plTo_mem.1 hi
    obtain ⟨-, q, hq, h4, h5, h6⟩ := plTo_mem.1 hj
    exact absurd (h3.trans h6.symm) (places_two hG hp hq ⟨h1, h2⟩ ⟨h4, h5⟩ hij)
  · refine List.pairwise_lt_range.imp fun {A B} hAB i hi j hj => ?_
    obtain ⟨-, p, hp, h1, h2, h3⟩ := plTo_mem.1 hi
    obtain ⟨-, q, hq, h4, h5, h6⟩ := plTo_mem.1 hj
    unfold plI
    rw [hp, hq]
    simp only
    omega
theorem inL_mem {xs : List Cd} {ps : List Pc} (hG : GoodB xs ps) {h i : Nat} : i ∈ inL ps h 2 ↔ i ∈ idsIn ps h 2 := by
  unfold inL inTo
  rw [List.mem_flatMap, idsIn_mem]
  constructor
  · rintro ⟨A, -, hi⟩
    obtain ⟨-, p, hp, h1, h2, -⟩ := plTo_mem.1 hi
    exact ⟨p, hp, h1, h2⟩
  · rintro ⟨p, hp, h1, h2⟩
    have hr := (hG.one p (List.mem_of_getElem? hp)).row (.inl h2)
    exact ⟨p.pl.toNat, List.mem_range.2 (by omega), plTo_mem.2 ⟨(List.getElem?_eq_some_iff.1 hp).1, p, hp, h1, h2, by omega⟩⟩
/-- Somebody's Row by places is one list. -/
theorem in_one {xs : List Cd} {ps : List Pc} (hG : GoodB xs ps) {h : Nat} {l : List Nat} (hp : l.Perm (idsIn ps h 2)) (hb : ByPl ps l) : l = inL ps h 2 := by
  refine sorted_ext (f := plI ps) ?_ (inL_sorted hG h) fun x => by rw [inL_mem hG, hp.mem_iff]
  rw [List.pairwise_iff_getElem]
  intro i j hi hj hij
  have h1 := hb i j hij hj
  have e1 : l.getD i 0 = l[i] := by simp [List.getD, hi]
  have e2 : l.getD j 0 = l[j] := by simp [List.getD, hj]
  rw [e1, e2] at h1
  have hne : l[i] ≠ l[j] := fun e => by
    have := (List.getElem_inj (hp.nodup_iff.2 idsIn_nodup)).1 e
    omega
  obtain ⟨p, hp1, hp2, hp3⟩ := idsIn_mem.1 (hp.mem_iff.1 (List.getElem_mem hi))
  obtain ⟨q, hq1, hq2, hq3⟩ := idsIn_mem.1 (hp.mem_iff.1 (List.getElem_mem hj))
  have : p.pl ≠ q.pl := by
    rcases Nat.lt_or_gt_of_ne hne with hlt | hlt
    · exact places_two hG hp1 hq1 ⟨hp2, hp3⟩ ⟨hq2, hq3⟩ hlt
    · exact (places_two hG hq1 hp1 ⟨hq2, hq3⟩ ⟨hp2, hp3⟩ hlt).symm
  unfold plI at h1 ⊢
  rw [hp1, hq1] at h1 ⊢
  simp only at h1 ⊢
  omega
end Go.Proofs.Ytfdehhibgdeedaa
