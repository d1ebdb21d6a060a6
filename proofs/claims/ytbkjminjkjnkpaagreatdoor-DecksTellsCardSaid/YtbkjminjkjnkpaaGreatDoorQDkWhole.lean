import Derived.Test.YtbkjminjkjnkpaaGreatDoorQDkWrite
import Derived.Test.YtbkjminjkjnkpaaGreatDoorQDkRead
/- Layer 5 (decks): decks.Write: what it answers, for whatever decks and kinds. -/
namespace Go.Proofs.YtbkjminjkjnkpaaGreatDoor
open Go.RowKit Go.Lib

/-- Places as numbers. -/
def intsOf (l : List Nat) : List Int := l.map fun (n : Nat) => (n : Int)
theorem ints_of_nats {w : World} {B : Nat} {p : Option Addr} {n c : Nat} {out : List Nat} (h : NatsAt w B (.slice p n c) out) : IntsAt w p (intsOf out) ∧ n = (intsOf out).length := by
  have hlen : (intsOf out).length = out.length := by simp [intsOf]
  rw [hlen]
  rcases h.2 with ⟨hv, h0⟩ | ⟨g, cap, cur, hv, _, hg, _⟩
  · injection hv with h1 h2 h3
    have : out = [] := List.eq_nil_of_length_eq_zero h0
    subst this
    exact ⟨IntsAt.nil _ _, by rw [h2]; rfl⟩
  · have hv' := hv
    injection hv with h1 h2 h3
    refine ⟨fun i x hx => ⟨⟨g, 0, none⟩, h1, ?_⟩, h2⟩
    refine h.cells (g := g) (by rw [hv']; rfl) i _ ?_
    unfold intsOf at hx
    rw [List.getElem?_map] at hx
    unfold natCells
    rw [List.getElem?_map]
    cases ho : out[i]? with
    | none => rw [ho] at hx; cases hx
    | some k => rw [ho] at hx; cases hx; rfl
theorem isB_later {B b : Nat} {bs : List UInt8} {w w' : World} (h : IsB B b bs w) (hb : Below w.heap.size w w') : IsB B b bs w' := by
  rcases h with h | h
  · obtain ⟨hB, v, hbk, hown, hne⟩ := h
    exact .inl ⟨hB, v, (hb.block _ (Array.getElem?_eq_some_iff.1 hbk).1).trans hbk, ownsRow_later hown hb, hne⟩
  · obtain ⟨hB, v, hbk, hown, hne⟩ := h
    exact .inr ⟨hB, v, (hb.block _ (Array.getElem?_eq_some_iff.1 hbk).1).trans hbk, ownsRow_later hown hb, hne⟩
theorem body_len (ns : List ByteArray) : ∀ (n : Nat) (d : List Int), d.length ≤ n → d.length ≤ 40 → (∀ x ∈ d, wordB (nameI ns x) = true) → (joinB (bodyK ns d)).length ≤ 100 * d.length
  | 0, d, h, _, _ => by
    have : d = [] := List.eq_nil_of_length_eq_zero (by omega)
    subst this
    exact Nat.zero_le _
  | n + 1, [], _, _, _ => Nat.zero_le _
  | n + 1, x :: l, h, h4, hw => by
    have hp := alike_pos (xs := x :: l) (by simp)
    have hq := alike_le (x :: l)
    have hl : ((x :: l).drop (alikeN (x :: l))).length = (x :: l).length - alikeN (x :: l) := List.length_drop
    have ih := body_len ns n ((x :: l).drop (alikeN (x :: l))) (by rw [hl]; omega) (by rw [hl]; omega) (fun y hy => hw y (List.mem_of_mem_drop hy))
    have h2 := joinB_two_len (n := alikeN (x :: l)) (by omega) (by omega) (hw x List.mem_cons_self)
    rw [bodyK_cons, show (((2, decB (alikeN (x :: l))), 0) :: ((1, nameI ns x), 0) :: bodyK ns ((x :: l).drop (alikeN (x :: l))) : List (KT × Nat)) = [((2, decB (alikeN (x :: l))), 0), ((1, nameI ns x), 0)] ++ bodyK ns ((x :: l).drop (alikeN (x :: l))) from rfl, joinB_app, List.length_append]
    omega
theorem deck_len {ns : List ByteArray} {d : List Int} (h : tellB ns d = true) : (joinB (deckK ns d)).length ≤ 4100 := by
  obtain ⟨h1, h2⟩ := tell_each h
  have := body_len ns d.length d (Nat.le_refl _) h1 (fun x hx => (h2 x hx).2.2)
  unfold deckK
  rw [joinB_app, joinB_app, joinB_head, joinB_tail]
  simp only [List.length_append, List.length_cons, List.length_nil]
  omega
/-- What Write answers. -/
def writeAns (ns : List ByteArray) (a b : List Int) : ByteArray × Nat := match writeOf ns a b with
  | some s => (s, 0)
  | none => (⟨#[]⟩, 2)
theorem ans_tell_a {ns : List ByteArray} {a b : List Int} (h : tellB ns a = false) : writeAns ns a b = (⟨#[]⟩, 2) := by
  unfold writeAns writeOf; rw [if_neg (fun x => by rw [h] at x; cases x.1)]
theorem ans_tell_b {ns : List ByteArray} {a b : List Int} (h : tellB ns b = false) : writeAns ns a b = (⟨#[]⟩, 2) := by
  unfold writeAns writeOf; rw [if_neg (fun x => by rw [h] at x; cases x.2)]
theorem ans_read {ns : List ByteArray} {a b : List Int} (ha : tellB ns a = true) (hb : tellB ns b = true) (r : (Nat × (Int × Int)) × List Nat × List Nat) (hr : readOf ns (joinK (deckK ns a ++ deckK ns b)) = r) :
    writeAns ns a b = if r.1.1 = 0 ∧ sameB (intsOf r.2.1) a = true ∧ sameB (intsOf r.2.2) b = true then (joinK (deckK ns a ++ deckK ns b), 0) else (⟨#[]⟩, 2) := by
  unfold writeAns writeOf
  rw [if_pos ⟨ha, hb⟩, hr]
  have e1 : (r.2.1.map (fun (n : Nat) => (n : Int)) = a) ↔ sameB (intsOf r.2.1) a = true := by unfold sameB intsOf; simp
  have e2 : (r.2.2.map (fun (n : Nat) => (n : Int)) = b) ↔ sameB (intsOf r.2.2) b = true := by unfold sameB intsOf; simp
  by_cases hc : r.1.1 = 0 ∧ sameB (intsOf r.2.1) a = true ∧ sameB (intsOf r.2.2) b = true
  · rw [if_pos hc, if_pos ⟨hc.1, e1.2 hc.2.1, e2.2 hc.2.2⟩]
  · rw [if_neg hc, if_neg (fun h => hc ⟨h.1, e1.1 h.2.1, e2.1 h.2.2⟩)]

set_option maxHeartbeats 8000000 in
set_option maxRecDepth 100000 in
theorem writes_decks (qa qb p : Option Addr) (ca cb c : Nat) (da db : List Int) (ks : List KC) (w : World) (hda : IntsAt w qa da) (hdb : IntsAt w qb db) (hla : da.length ≤ ca ∧ ca ≤ maxLen ∧ da.length ≤ maxLen) (hlb : db.length ≤ cb ∧ cb ≤ maxLen ∧ db.length ≤ maxLen)
    (hK : KindsAt w p ks) (hm : ks.length ≤ 4611686018427387904) (hn : ∀ k ∈ ks, k.name.size ≤ maxLen) (hT : Tabs w) :
    Calls Tryz.prog 9 #[.agg #[.slice qa da.length ca, .slice qb db.length cb], .slice p ks.length c] w fun e w' => e = .returned (.tuple #[.string (writeAns (ks.map (·.name)) da db).1, .int .i64 (writeAns (ks.map (·.name)) da db).2]) ∧ Below w.heap.size w w' := by
  obtain ⟨w0, hw0⟩ : ∃ w0, w0 = w.alloc (.cells #[.slice qa da.length ca, .slice qb db.length cb] 23) := ⟨_, rfl⟩
  have hb0 : Below w.heap.size w w0 := by rw [hw0]; exact (Below.refl _ _).alloc (Nat.le_refl _) _
  have hs0 : w0.heap.size = w.heap.size + 1 := by rw [hw0]; simp
  have hx0 : w0.heap[w.heap.size]? = some (.cells #[.slice qa da.length ca, .slice qb db.length cb] 23 (0, 0)) := by rw [hw0]; exact heap_alloc_new _ _
  obtain ⟨w1, hw1⟩ : ∃ w1, w1 = w0.alloc (.cells #[.pointer none, .slice none 0 0] 73) := ⟨_, rfl⟩
  have hb1 : Below w0.heap.size w0 w1 := by rw [hw1]; exact (Below.refl _ _).alloc (Nat.le_refl _) _
  have hi1 : IsB w0.heap.size w0.heap.size [] w1 := by rw [hw1]; exact Lib.fresh_isBuilder _ _ _
  have HDA := Lib.hid (hda.below hb0)
  have HDB := Lib.hid (hdb.below hb0)
  have HK := Lib.hid (hK.below hb0)
  have HT := Lib.hid (hT.below hb0)
  have HN := Lib.hid hn
  have HW0 := Lib.hid hw0
  have HW1 := Lib.hid hw1
  have HX0 := Lib.hid hx0
  have HB0 := Lib.hid hb0
  have HB1 := Lib.hid hb1
  have HI1 := Lib.hid hi1
  have HLA := Lib.hid hla
  have HLB := Lib.hid hlb
  obtain ⟨ns, hns⟩ : ∃ ns, ns = ks.map (·.name) := ⟨_, rfl⟩
  rw [← hns]
  have HNS := Lib.hid hns
  obtain ⟨AN, hAN⟩ : ∃ AN, AN = writeAns ns da db := ⟨_, rfl⟩
  rw [← hAN]
  have HAN := Lib.hid hAN
  have htA := tellable_any qa p ca c da ks w1 ((HDA.out.below hb1)) hla.2.2 (HK.out.below hb1) hm hn (HT.out.below hb1)
  rw [← hns] at htA
  have HTA := Lib.hid htA
  have hix0 : ∀ W : World, (Instr.index 23 (.agg #[.slice qa da.length ca, .slice qb db.length cb]) (.int .i64 0)).run Tryz.prog W = .ok (.slice qa da.length ca) W := fun W => by kernel_rfl
  have hix1 : ∀ W : World, (Instr.index 23 (.agg #[.slice qa da.length ca, .slice qb db.length cb]) (.int .i64 1)).run Tryz.prog W = .ok (.slice qb db.length cb) W := fun W => by kernel_rfl
  clear hda hdb hK hT hn hw0 hw1 hx0 hb0 hb1 hi1 hla hlb hns hAN htA
  cases ha : tellB ns da with
  | false =>
    have han := HAN.out
    rw [ans_tell_a ha] at han
    rw [ha] at HTA
    have HAN := Lib.hid han
    clear ha han
    go_enter Tryz.func9, Tryz.ntmps9
    go_wp2_with fail
    refine wp_loop_rounds 3 ?_
    rw [rounds_succ]
    go_wp2_with fail
    rw [← HW0.out, show w.heap.size + 1 = w0.heap.size from hs0.symm, ← HW1.out]
    refine HTA.out.mono ?_
    rintro e w2 ⟨rfl, b2⟩
    have HB2 := Lib.hid b2
    clear b2
    go_wp2
    go_ret2
    exact ⟨by rw [HAN.out]; rfl, HB0.out.trans ((HB1.out.trans (HB2.out.mono HB1.out.size)).mono HB0.out.size)⟩
  | true => 
    rw [ha] at HTA
    have HA := Lib.hid ha
    clear ha
    go_enter Tryz.func9, Tryz.ntmps9
    go_wp2_with fail
    refine wp_loop_rounds 3 ?_
    rw [rounds_succ]
    go_wp2_with fail
    rw [← HW0.out, show w.heap.size + 1 = w0.heap.size from hs0.symm, ← HW1.out]
    refine HTA.out.mono ?_
    rintro e w2 ⟨rfl, b2⟩
    have hb2 := HB1.out.trans (b2.mono HB1.out.size)
    have hwr := write_any qa p ca c w0.heap.size [] da ks w0 w2 HDA.out HK.out hm HN.out HLA.out.1 HLA.out.2.1 hb2 (isB_later HI1.out b2) (by rw [← HNS.out]; exact HA.out) (by simp)
    rw [← HNS.out, List.nil_append] at hwr
    have HWR := Lib.hid hwr
    have HS0 := Lib.hid hs0
    clear b2 hb2 hwr
    go_wp2_with fail
    rw [show w.heap.size + 1 = w0.heap.size from HS0.out.symm]
    refine HWR.out.mono ?_
    rintro e w3 ⟨rfl, hi3, hb3⟩
    have HI3 := Lib.hid hi3
    have HB3 := Lib.hid hb3
    have htB := tellable_any qb p cb c db ks w3 (HDB.out.below hb3) HLB.out.2.2 (HK.out.below hb3) hm HN.out (HT.out.below hb3)
    rw [← HNS.out] at htB
    have HTB := Lib.hid htB
    clear hi3 hb3 htB
    go_wp2_with fail
    rw [rounds_succ]
    go_wp2_with fail
    refine HTB.out.mono ?_
    rintro e w4 ⟨rfl, b4⟩
    have hb4 : Below w0.heap.size w0 w4 := HB3.out.trans (b4.mono HB3.out.size)
    have HB4 := Lib.hid hb4
    have HI4 := Lib.hid (isB_later HI3.out b4)
    clear b4 hb4
    cases hbt : tellB ns db with
    | false =>
      have han := HAN.out
      rw [ans_tell_b hbt] at han
      have HAN := Lib.hid han
      clear hbt han
      go_wp2
      go_ret2
      exact ⟨by rw [HAN.out]; rfl, HB0.out.trans (HB4.out.mono HB0.out.size)⟩
    | true =>
      have HBT := Lib.hid hbt
      have hwr := write_any qb p cb c w0.heap.size (joinB (deckK ns da)) db ks w0 w4 HDB.out HK.out hm HN.out HLB.out.1 HLB.out.2.1 HB4.out HI4.out (by rw [← HNS.out]; exact hbt) (by have := deck_len HA.out; omega)
      rw [← HNS.out, ← joinB_app] at hwr
      have HWR := Lib.hid hwr
      clear hbt hwr
      go_wp2_with fail
      rw [show w.heap.size + 1 = w0.heap.size from HS0.out.symm]
      refine HWR.out.mono ?_
      rintro e w5 ⟨rfl, hi5, hb5⟩
      have hst := string_any w0.heap.size w0.heap.size _ w5 hi5 hb5.size
      have hjk : (⟨(joinB (deckK ns da ++ deckK ns db)).toArray⟩ : ByteArray) = joinK (deckK ns da ++ deckK ns db) := by unfold joinB; simp
      rw [hjk] at hst
      have hjl : (joinK (deckK ns da ++ deckK ns db)).size ≤ 10000 := by
        rw [joinK_app, size_app]
        have e1 := deck_len HA.out
        have e2 := deck_len HBT.out
        unfold joinB at e1 e2
        rw [Array.length_toList] at e1 e2
        have e3 : (joinK (deckK ns da)).size ≤ 4100 := e1
        have e4 : (joinK (deckK ns db)).size ≤ 4100 := e2
        omega
      have HST := Lib.hid hst
      have HB5 := Lib.hid hb5
      have HJL := Lib.hid hjl
      have han := fun r hr => HAN.out.trans (ans_read HA.out HBT.out r hr)
      have HAN := Lib.hid han
      clear hst hi5 hb5 hjk hjl han
      generalize joinK (deckK ns da ++ deckK ns db) = TX at *
      go_wp2_with fail
      rw [rounds_succ]
      go_wp2_with fail
      rw [show w.heap.size + 1 = w0.heap.size from HS0.out.symm]
      refine HST.out.mono ?_
      rintro e w6 ⟨rfl, b6⟩
      have hb6 : Below w0.heap.size w0 w6 := HB5.out.trans b6
      have hrd := read_any TX p c ks w6 (by have := HJL.out; unfold maxLen; omega) (HK.out.below hb6) hm HN.out (HT.out.below hb6)
      rw [← HNS.out] at hrd
      obtain ⟨r, hr⟩ : ∃ r, readOf ns TX = r := ⟨_, rfl⟩
      rw [hr] at hrd
      have han := HAN.out r hr
      obtain ⟨⟨er, l, cl⟩, ra, rb⟩ := r
      simp only [] at han
      have HAN := Lib.hid han
      have HRD := Lib.hid hrd
      have HB6 := Lib.hid hb6
      clear b6 hb6 hrd hr han
      go_wp2_with fail
      refine HRD.out.mono ?_
      rintro e w7 ⟨a, n, c', a', n', c'', rfl, hna, hnb, b7⟩
      simp only [] at hna hnb
      have hb7 : Below w0.heap.size w0 w7 := HB6.out.trans (b7.mono HB6.out.size)
      have hx7 := (hb7.block w.heap.size (by have := HS0.out; omega)).trans HX0.out
      have hlw : w.heap.size < w7.heap.size := heap_lt hx7
      have HX7 := Lib.hid hx7
      obtain ⟨hia, rfl⟩ := ints_of_nats hna
      obtain ⟨hib, rfl⟩ := ints_of_nats hnb
      have hma : (intsOf ra).length ≤ maxLen := by
        have := hna.1
        rcases hna.2 with ⟨hv, h0⟩ | ⟨g, cap, cur, hv, _, _, h1, h2, _⟩
        · simp only [intsOf, List.length_map]; rw [h0]; exact Nat.zero_le _
        · simp only [intsOf, List.length_map]; omega
      have hmb : (intsOf rb).length ≤ maxLen := by
        rcases hnb.2 with ⟨hv, h0⟩ | ⟨g, cap, cur, hv, _, _, h1, h2, _⟩
        · simp only [intsOf, List.length_map]; rw [h0]; exact Nat.zero_le _
        · simp only [intsOf, List.length_map]; omega
      have hla1 : da.length ≤ maxLen := by have := HLA.out; omega
      have hlb1 : db.length ≤ maxLen := by have := HLB.out; omega
      obtain ⟨w8, hw8⟩ : ∃ w8, w8 = (w7.alloc (.cells #[.slice a (intsOf ra).length c', .slice a' (intsOf rb).length c''] 23)).alloc (.cells #[.int .i64 er, .int .i64 l, .int .i64 cl] 31) := ⟨_, rfl⟩
      have hb8 : Below w7.heap.size w7 w8 := by rw [hw8]; exact ((Below.refl _ _).alloc (Nat.le_refl _) _).alloc (by simp) _
      have he1 := Lib.hid (equal_any w8 a qa c' ca (intsOf ra) da (hia.below hb8) ((HDA.out.below hb7).below hb8) hma hla1)
      have he2 := Lib.hid (fun W (hb : Below w8.heap.size w8 W) => equal_any W a' qb c'' cb (intsOf rb) db ((hib.below hb8).below hb) (((HDB.out.below hb7).below hb8).below hb) hmb hlb1)
      have HB8 := Lib.hid (HB0.out.trans ((hb7.trans (hb8.mono hb7.size)).mono HB0.out.size))
      have HW8 := Lib.hid hw8
      have hs8 : w8.heap.size = w7.heap.size + 1 + 1 := by rw [hw8]; simp
      have HS8 := Lib.hid hs8
      have x0 := cell_blk (i := 0) hx7; have x1 := cell_blk (i := 1) hx7; have xf0 := free_blk (i := 0) hx7; have xf1 := free_blk (i := 1) hx7; simp at x0 x1
      clear hx7 hia hib hma hmb hla1 hlb1 hw8 hb8 hna hnb b7 hb7 hs8
      generalize (intsOf ra).length = na at *
      generalize (intsOf rb).length = nb at *
      generalize hsa : sameB (intsOf ra) da = SA at *
      generalize hsb : sameB (intsOf rb) db = SB at *
      clear hsa hsb
      by_cases he : er = 0
      · subst he
        have han := HAN.out
        cases SA with
        | false =>
          rw [if_neg (fun h => by cases h.2.1)] at han
          have HAN := Lib.hid han
          clear han
          go_wp2_with fail
          rw [show (w7.alloc (.cells #[.slice a na c', .slice a' nb c''] 23)).alloc (.cells #[.int .i64 0, .int .i64 l, .int .i64 cl] 31) = w8 from HW8.out.symm]
          refine he1.out.mono ?_
          rintro e w9 ⟨rfl, b9⟩
          have HB9 := Lib.hid (HB8.out.trans (b9.mono HB8.out.size))
          clear b9
          go_wp2
          go_ret2
          exact ⟨by rw [HAN.out]; rfl, HB9.out⟩
        | true =>
          have f8 : w8.heap[w7.heap.size]? = some (.cells #[.slice a na c', .slice a' nb c''] 23 (0, 0)) := by
            rw [HW8.out]
            exact (Below.heap_alloc _ _ _ (by simp)).trans (heap_alloc_new _ _)
          have f9 : w8.heap[w.heap.size]? = some (.cells #[.slice qa da.length ca, .slice qb db.length cb] 23 (0, 0)) := by
            rw [HW8.out]
            exact (Below.heap_alloc _ _ _ (by simp; omega)).trans ((Below.heap_alloc _ _ _ hlw).trans HX7.out)
          have F8 := Lib.hid f8
          have F9 := Lib.hid f9
          clear f8 f9
          cases SB with
          | false =>
            rw [if_neg (fun h => by cases h.2.2)] at han
            have HAN := Lib.hid han
            clear han
            go_wp2_with fail
            rw [show (w7.alloc (.cells #[.slice a na c', .slice a' nb c''] 23)).alloc (.cells #[.int .i64 0, .int .i64 l, .int .i64 cl] 31) = w8 from HW8.out.symm]
            refine he1.out.mono ?_
            rintro e w9 ⟨rfl, b9⟩
            have g8 := (b9.block _ (heap_lt F8.out)).trans F8.out
            have g9 := (b9.block _ (heap_lt F9.out)).trans F9.out
            have i0 := cell_blk (i := 0) g8; have i1 := cell_blk (i := 1) g8; have if0 := free_blk (i := 0) g8; have if1 := free_blk (i := 1) g8; simp at i0 i1
            have j0 := cell_blk (i := 0) g9; have j1 := cell_blk (i := 1) g9; have jf0 := free_blk (i := 0) g9; have jf1 := free_blk (i := 1) g9; simp at j0 j1
            have HB9 := Lib.hid (HB8.out.trans (b9.mono HB8.out.size))
            have he3 := Lib.hid (he2.out w9 b9)
            clear b9 g8 g9
            go_wp2_with fail
            refine he3.out.mono ?_
            rintro e w10 ⟨rfl, b10⟩
            have HB10 := Lib.hid (HB9.out.trans (b10.mono HB9.out.size))
            clear b10
            go_wp2
            go_ret2
            exact ⟨by rw [HAN.out]; rfl, HB10.out⟩
          | true =>
            rw [if_pos ⟨rfl, rfl, rfl⟩] at han
            have HAN := Lib.hid han
            clear han
            go_wp2_with fail
            rw [show (w7.alloc (.cells #[.slice a na c', .slice a' nb c''] 23)).alloc (.cells #[.int .i64 0, .int .i64 l, .int .i64 cl] 31) = w8 from HW8.out.symm]
            refine he1.out.mono ?_
            rintro e w9 ⟨rfl, b9⟩
            have g8 := (b9.block _ (heap_lt F8.out)).trans F8.out
            have g9 := (b9.block _ (heap_lt F9.out)).trans F9.out
            have i0 := cell_blk (i := 0) g8; have i1 := cell_blk (i := 1) g8; have if0 := free_blk (i := 0) g8; have if1 := free_blk (i := 1) g8; simp at i0 i1
            have j0 := cell_blk (i := 0) g9; have j1 := cell_blk (i := 1) g9; have jf0 := free_blk (i := 0) g9; have jf1 := free_blk (i := 1) g9; simp at j0 j1
            have HB9 := Lib.hid (HB8.out.trans (b9.mono HB8.out.size))
            have he3 := Lib.hid (he2.out w9 b9)
            clear b9 g8 g9
            go_wp2_with fail
            refine he3.out.mono ?_
            rintro e w10 ⟨rfl, b10⟩
            have HB10 := Lib.hid (HB9.out.trans (b10.mono HB9.out.size))
            clear b10
            go_wp2
            go_ret2
            exact ⟨by rw [HAN.out]; rfl, HB10.out⟩
      · have q1 : ((er : Int) != 0) = true := by simp; omega
        have han := HAN.out
        rw [if_neg (fun h => he h.1)] at han
        have HAN := Lib.hid han
        clear he han
        go_wp2
        go_ret2
        rw [← HW8.out]
        exact ⟨by rw [HAN.out]; rfl, HB8.out⟩
end Go.Proofs.YtbkjminjkjnkpaaGreatDoor
