/- MightAuras of any table. -/
import Derived.Test.YtomhlgamdmcneaaTbLawM
import Derived.Deep.DeepCutAuto
namespace Go.Proofs.Ytomhlgamdmcneaa
open Go.RowKit Go.Lib

def Tb.zero : Tb := ⟨none, 0, 0, none, 0, 0, 0, 0, 0, 0, 0, none, 0, 0, false, false⟩
def NoMore (Q : Prop) : Prop := Q
set_option maxHeartbeats 16000000 in
set_option maxRecDepth 100000 in
theorem matt_any (D : Nat) (t : Tb) (xs : List Cd) (ps : List Pc) (es : List Ev) (id oth : Int) (w : World) (h : CameT w D t xs ps es) :
    Calls Try.prog 3 #[.agg t.row, .int .i64 id, .int .i64 oth] w fun e w' => e = .returned (.bool true) ∧ Below w.heap.size w w' := by
  have hzero := Lib.hid fun (W : World) => attack_zero Tb.zero id W (by decide)
  have hgreat := Lib.hid fun (W : World) (hb : Below w.heap.size w W) => great_any t xs ps W (h.tab.below hb)
  have hmay := Lib.hid fun (W : World) (hb : Below w.heap.size w W) => rmay_any t xs ps W (h.tab.below hb)
  have hdup := Lib.hid fun (W : World) (hb : Below w.heap.size w W) => dup_any D t xs ps es W (h.below hb)
  have hatt := Lib.hid fun (W : World) (hb : Below w.heap.size w W) (hL : LifeOk t) (hG : GoodB xs ps) (i : Nat) (p : Pc) (hi : ps[i]? = some p) => attack_may t xs ps i p W (h.tab.below hb) hL hG hi h.few
  have hfew := Lib.hid h.few
  have hlen := Lib.hid h.tab.few
  have HP := Lib.hid h.pieces
  have hnp : t.np = ps.length := h.tab.np.1
  have hpl := h.tab.np.2
  obtain ⟨qk, nk, ck, qp, np, cp, tl0, tl1, tn, py, mo, qe, ne, ce, b0, b1⟩ := t
  dsimp only at hnp HP
  subst hnp
  obtain ⟨n, hn⟩ : ∃ n, ps.length = n := ⟨_, rfl⟩
  rw [hn] at hpl hmay hgreat hdup HP ⊢
  simp only [hn] at hatt
  have HN := Lib.hid hn
  clear h hn
  obtain ⟨w0, hw0⟩ : ∃ w0, w0 = w.alloc (.cells #[.slice qk nk ck, .slice qp n cp, .int .i64 tl0, .int .i64 tl1, .int .i64 tn, .int .u8 py, .int .i64 mo, .slice qe ne ce, .bool b0, .bool b1] 28) := ⟨_, rfl⟩
  have hb0 : Below w.heap.size w w0 := by rw [hw0]; exact (Below.refl _ _).alloc (Nat.le_refl _) _
  have hx0 : w0.heap[w.heap.size]? = some (.cells #[.slice qk nk ck, .slice qp n cp, .int .i64 tl0, .int .i64 tl1, .int .i64 tn, .int .u8 py, .int .i64 mo, .slice qe ne ce, .bool b0, .bool b1] 28 (0, 0)) := by rw [hw0]; exact heap_alloc_new _ _
  have HB0 := Lib.hid hb0
  have HX0 := Lib.hid hx0
  have HW0 := Lib.hid hw0
  clear hb0 hx0 hw0
  simp only [Tb.row, Tb.zero, Int.natCast_zero] at *
  go_enter Try.func3, Try.ntmps3
  go_wp2_with fail
  rw [← HW0.out]
  refine (hgreat.out w0 HB0.out).mono ?_
  rintro e w1 ⟨⟨gr, rfl⟩, b1'⟩
  have HB1 := Lib.hid (HB0.out.trans (b1'.mono HB0.out.size))
  have HX1 := Lib.hid ((b1'.block _ (heap_lt HX0.out)).trans HX0.out)
  clear b1'
  cases gr with
  | true =>
    go_wp2_with fail
    refine (hzero.out w1).mono ?_
    rintro e wz ⟨rfl, bz⟩
    go_wp2_with (go_at_call 7; refine (lives_any _).mono ?_; rintro e wy ⟨rfl, by'⟩)
    go_ret
    exact ⟨rfl, HB1.out.trans ((bz.trans (by'.mono bz.size)).mono HB1.out.size)⟩
  | false =>
    have x0 := cell_blk (i := 0) HX1.out
    have x1 := cell_blk (i := 1) HX1.out
    have x2 := cell_blk (i := 2) HX1.out
    have x3 := cell_blk (i := 3) HX1.out
    have x4 := cell_blk (i := 4) HX1.out
    have x5 := cell_blk (i := 5) HX1.out
    have x6 := cell_blk (i := 6) HX1.out
    have x7 := cell_blk (i := 7) HX1.out
    have x8 := cell_blk (i := 8) HX1.out
    have x9 := cell_blk (i := 9) HX1.out
    simp at x0 x1 x2 x3 x4 x5 x6 x7 x8 x9
    go_wp2_with fail
    refine (hmay.out w1 HB1.out).mono ?_
    rintro e w2 ⟨⟨my, rfl, hyes⟩, b2'⟩
    have HB2 := Lib.hid (HB1.out.trans (b2'.mono HB1.out.size))
    have HX2 := Lib.hid ((b2'.block _ (heap_lt HX1.out)).trans HX1.out)
    clear b2'
    clear x0 x1 x2 x3 x4 x5 x6 x7 x8 x9
    cases my with
    | false =>
      go_wp2_with fail
      refine (hzero.out w2).mono ?_
      rintro e wz ⟨rfl, bz⟩
      go_wp2_with (go_at_call 7; refine (lives_any _).mono ?_; rintro e wy ⟨rfl, by'⟩)
      go_ret
      exact ⟨rfl, HB2.out.trans ((bz.trans (by'.mono bz.size)).mono HB2.out.size)⟩
    | true =>
      have HLG := Lib.hid (hyes rfl)
      clear hyes
      have x0 := cell_blk (i := 0) HX2.out
      have x1 := cell_blk (i := 1) HX2.out
      have x2 := cell_blk (i := 2) HX2.out
      have x3 := cell_blk (i := 3) HX2.out
      have x4 := cell_blk (i := 4) HX2.out
      have x5 := cell_blk (i := 5) HX2.out
      have x6 := cell_blk (i := 6) HX2.out
      have x7 := cell_blk (i := 7) HX2.out
      have x8 := cell_blk (i := 8) HX2.out
      have x9 := cell_blk (i := 9) HX2.out
      simp at x0 x1 x2 x3 x4 x5 x6 x7 x8 x9
      by_cases i1 : id < 0
      · skip
        go_wp2_with fail
        refine (hzero.out w2).mono ?_
        rintro e wz ⟨rfl, bz⟩
        go_wp2_with (go_at_call 7; refine (lives_any _).mono ?_; rintro e wy ⟨rfl, by'⟩)
        go_ret
        exact ⟨rfl, HB2.out.trans ((bz.trans (by'.mono bz.size)).mono HB2.out.size)⟩
      · by_cases i2 : (n : Int) ≤ id
        · skip
          go_wp2_with fail
          refine (hzero.out w2).mono ?_
          rintro e wz ⟨rfl, bz⟩
          go_wp2_with (go_at_call 7; refine (lives_any _).mono ?_; rintro e wy ⟨rfl, by'⟩)
          go_ret
          exact ⟨rfl, HB2.out.trans ((bz.trans (by'.mono bz.size)).mono HB2.out.size)⟩
        · obtain ⟨i, rfl⟩ : ∃ i : Nat, id = (i : Int) := ⟨id.toNat, by omega⟩
          have i0 : (0 : Int) ≤ (i : Int) := by omega
          have i3 : (i : Int) < (n : Int) := by omega
          have i4 : i < n := by omega
          clear i1 i2
          obtain ⟨p, hp⟩ : ∃ p, ps[i]? = some p := ⟨ps[i]'(by have := HN.out; omega), List.getElem?_eq_getElem _⟩
          obtain ⟨hL, hG⟩ := HLG.out
          have hak := (hG.one p (List.mem_of_getElem? hp)).ak
          go_wp2_with fail
          refine (hdup.out w2 HB2.out).mono ?_
          rintro e w3 ⟨⟨u, g, rfl, hD⟩, b3'⟩
          have HB3 := Lib.hid (HB2.out.trans (b3'.mono HB2.out.size))
          have HB23 := Lib.hid b3'
          obtain ⟨uqk, unk, uck, uqp, unp, ucp, ul0, ul1, utn, upy, umo, uqe, une, uce, ub0, ub1⟩ := u
          obtain rfl : n = unp := HN.out.symm.trans hD.np.symm
          obtain ⟨hq, tail, hg⟩ := hD.pcs (by have := HN.out; omega)
          dsimp only at hq
          subst hq
          have hg3 := heap_lt hg
          have hgn : w2.heap.size ≤ g := hD.new
          clear tail hg
          obtain ⟨w4, hw4⟩ : ∃ w4, w4 = w3.alloc (.cells #[.slice uqk unk uck, .slice (some ⟨g, 0, none⟩) n ucp, .int .i64 ul0, .int .i64 ul1, .int .i64 utn, .int .u8 upy, .int .i64 umo, .slice uqe une uce, .bool ub0, .bool ub1] 28) := ⟨_, rfl⟩
          have b4' : Below w3.heap.size w3 w4 := by rw [hw4]; exact (Below.refl _ _).alloc (Nat.le_refl _) _
          have HX4 := Lib.hid (show w4.heap[w3.heap.size]? = some (.cells #[.slice uqk unk uck, .slice (some ⟨g, 0, none⟩) n ucp, .int .i64 ul0, .int .i64 ul1, .int .i64 utn, .int .u8 upy, .int .i64 umo, .slice uqe une uce, .bool ub0, .bool ub1] 28 (0, 0)) by rw [hw4]; exact heap_alloc_new _ _)
          have HD4 := Lib.hid (hD.later b4')
          have HB24 := Lib.hid (HB23.out.trans (b4'.mono HB23.out.size))
          have HS4 := Lib.hid (show w4.heap.size = w3.heap.size + 1 by rw [hw4]; simp)
          have HW4 := Lib.hid hw4
          clear hw4 b4' b3' hD
          clear x0 x1 x2 x3 x4 x5 x6 x7 x8 x9
          simp only [Tb.row] at *
          go_wp2_with fail
          rw [← HW4.out]
          have z0 := cell_blk (i := 0) HX4.out
          have z1 := cell_blk (i := 1) HX4.out
          have z2 := cell_blk (i := 2) HX4.out
          have z3 := cell_blk (i := 3) HX4.out
          have z4 := cell_blk (i := 4) HX4.out
          have z5 := cell_blk (i := 5) HX4.out
          have z6 := cell_blk (i := 6) HX4.out
          have z7 := cell_blk (i := 7) HX4.out
          have z8 := cell_blk (i := 8) HX4.out
          have z9 := cell_blk (i := 9) HX4.out
          simp at z0 z1 z2 z3 z4 z5 z6 z7 z8 z9
          go_wp2_with fail
          go_loopw [8, 43] (fun _ vi wr => ∃ k : Nat, vi = .int .i64 k ∧ k ≤ n ∧ Below w2.heap.size w2 wr ∧ Hid (wr.heap[w3.heap.size]? = some (.cells #[.slice uqk unk uck, .slice (some ⟨g, 0, none⟩) n ucp, .int .i64 ul0, .int .i64 ul1, .int .i64 utn, .int .u8 upy, .int .i64 umo, .slice uqe une uce, .bool ub0, .bool ub1] 28 (0, 0)) ∧ DupT wr w2.heap.size D ⟨qk, nk, ck, qp, n, cp, tl0, tl1, tn, py, mo, qe, ne, ce, b0, b1⟩ ⟨uqk, unk, uck, some ⟨g, 0, none⟩, n, ucp, ul0, ul1, utn, upy, umo, uqe, une, uce, ub0, ub1⟩ xs (downK ps k) g)) (fun _ vi _ => n - (RowKit.intOf vi).toNat)
          case atStart => exact ⟨0, by rfl, by omega, HB24.out, Lib.hid ⟨HX4.out, by rw [downK_zero]; exact HD4.out⟩⟩
          case round =>
            obtain ⟨k, rfl, hk, hb, hrel⟩ := hrel
            rename World => wr
            clear z0 z1 z2 z3 z4 z5 z6 z7 z8 z9
            by_cases hlt : k < n
            · obtain ⟨pk, hpk⟩ : ∃ pk, ps[k]? = some pk := ⟨ps[k]'(by have := HN.out; omega), List.getElem?_eq_getElem _⟩
              have hdk := downK_at hpk
              obtain ⟨-, tail, hgb⟩ := hrel.out.2.pcs (by rw [downK_len]; have := HN.out; omega)
              have hcf := flat_get (size := 14) ((downK ps k).map pcV) (fun c hc => by obtain ⟨p, -, rfl⟩ := List.mem_map.1 hc; rfl) k 7 (pcV pk) (by simp [hdk]) (by omega)
              have hck : wr.cell? ⟨g, k * 14 + 7, none⟩ = some (.bool pk.up) := by
                have hl := (List.getElem?_eq_some_iff.1 (hcf.trans (show (pcV pk)[7]? = some (.bool pk.up) from rfl))).1
                rw [cell_blk hgb, Array.getElem?_append_left (by simpa using hl), List.getElem?_toArray]
                exact hcf
              have hfk : wr.frozen? ⟨g, k * 14 + 7, none⟩ = false := free_blk hgb
              have y1 := cell_blk (i := 1) hrel.out.1
              simp at y1
              have i5 : (0 : Int) ≤ (k : Int) := by omega
              have i6 : (k : Int) < (n : Int) := by omega
              have HS := Lib.hid (show DupT (wr.setCell ⟨g, k * 14 + 7, none⟩ (.bool false)) w2.heap.size D ⟨qk, nk, ck, qp, n, cp, tl0, tl1, tn, py, mo, qe, ne, ce, b0, b1⟩ ⟨uqk, unk, uck, some ⟨g, 0, none⟩, n, ucp, ul0, ul1, utn, upy, umo, uqe, une, uce, ub0, ub1⟩ xs (downK ps (k + 1)) g by rw [← downK_step hpk]; exact hrel.out.2.set hdk false)
              have HH := Lib.hid (show (wr.setCell ⟨g, k * 14 + 7, none⟩ (.bool false)).heap[w3.heap.size]? = some (.cells #[.slice uqk unk uck, .slice (some ⟨g, 0, none⟩) n ucp, .int .i64 ul0, .int .i64 ul1, .int .i64 utn, .int .u8 upy, .int .i64 umo, .slice uqe une uce, .bool ub0, .bool ub1] 28 (0, 0)) by exact (set_other (by omega)).trans hrel.out.1)
              have HBS := Lib.hid (show Below w2.heap.size w2 (wr.setCell ⟨g, k * 14 + 7, none⟩ (.bool false)) from set_below hb hgn)
              clear hcf hgb hdk hpk tail hb hrel
              go_wp2_with fail
              go_roundw
              case rel => exact ⟨k + 1, by go_num, by omega, HBS.out, Lib.hid ⟨HH.out, HS.out⟩⟩
              case measure => simp [RowKit.intOf]; omega
            · obtain rfl : n = k := by omega
              clear hlt
              have HDn := hrel
              clear hrel
              have HBR := Lib.hid (HB2.out.trans (hb.mono HB2.out.size))
              have HB2R := Lib.hid hb
              obtain ⟨q', c', hq, -, -, HX⟩ := HP.out
              simp only [Value.slice.injEq] at hq
              obtain ⟨rfl, -, rfl⟩ := hq
              obtain ⟨b, o, rfl, cs, -, hcs, hc⟩ := HX i p hp
              clear HX
              obtain rfl : cs = pcV p := hcs
              have HPC := Lib.hid (fun (W : World) (hW : Below w.heap.size w W) (j : Nat) (v : Value) (hv : (pcV p)[j]? = some v) => below_cell' hW (hc j v hv) (World.block_lt_of_cell? _ _ (hc j v hv)))
              clear hc
              have pc0 := HPC.out wr HBR.out 0 _ rfl
              have pc1 := HPC.out wr HBR.out 1 _ rfl
              have pc2 := HPC.out wr HBR.out 2 _ rfl
              have pc3 := HPC.out wr HBR.out 3 _ rfl
              have pc4 := HPC.out wr HBR.out 4 _ rfl
              have pc5 := HPC.out wr HBR.out 5 _ rfl
              have pc6 := HPC.out wr HBR.out 6 _ rfl
              have pc7 := HPC.out wr HBR.out 7 _ rfl
              have pc8 := HPC.out wr HBR.out 8 _ rfl
              have pc9 := HPC.out wr HBR.out 9 _ rfl
              have pc10 := HPC.out wr HBR.out 10 _ rfl
              have pc11 := HPC.out wr HBR.out 11 _ rfl
              have pc12 := HPC.out wr HBR.out 12 _ rfl
              have pc13 := HPC.out wr HBR.out 13 _ rfl
              simp only [Nat.add_zero] at pc0
              have HXR := Lib.hid ((hb.block _ (heap_lt HX2.out)).trans HX2.out)
              clear hb
              have x0 := cell_blk (i := 0) HXR.out
              have x1 := cell_blk (i := 1) HXR.out
              have x2 := cell_blk (i := 2) HXR.out
              have x3 := cell_blk (i := 3) HXR.out
              have x4 := cell_blk (i := 4) HXR.out
              have x5 := cell_blk (i := 5) HXR.out
              have x6 := cell_blk (i := 6) HXR.out
              have x7 := cell_blk (i := 7) HXR.out
              have x8 := cell_blk (i := 8) HXR.out
              have x9 := cell_blk (i := 9) HXR.out
              simp at x0 x1 x2 x3 x4 x5 x6 x7 x8 x9
              go_upto_region 10 with (fail)
              obtain ⟨w5, hw5⟩ : ∃ w5, w5 = wr.alloc (.cells #[.int .i64 p.df, .int .i64 p.ak, .int .i64 p.gd, .int .u8 p.ow, .int .u8 p.hs, .int .u8 p.zn, .int .i64 p.pl, .bool p.up, .bool p.lw, .int .i64 p.sc, .int .u8 p.us, .bool p.sk, .bool p.tu, .int .i64 p.bo] 34) := ⟨_, rfl⟩
              rw [← hw5]
              have b5' : Below wr.heap.size wr w5 := by rw [hw5]; exact (Below.refl _ _).alloc (Nat.le_refl _) _
              have HB5 := Lib.hid (HBR.out.trans (b5'.mono HBR.out.size))
              have HX5 := Lib.hid ((b5'.block _ (heap_lt HXR.out)).trans HXR.out)
              have HP5 := Lib.hid (show w5.heap[wr.heap.size]? = some (.cells #[.int .i64 p.df, .int .i64 p.ak, .int .i64 p.gd, .int .u8 p.ow, .int .u8 p.hs, .int .u8 p.zn, .int .i64 p.pl, .bool p.up, .bool p.lw, .int .i64 p.sc, .int .u8 p.us, .bool p.sk, .bool p.tu, .int .i64 p.bo] 34 (0, 0)) by rw [hw5]; exact heap_alloc_new _ _)
              have HD5 := Lib.hid (HDn.out.2.later b5')
              have HU5 := Lib.hid ((b5'.block _ (heap_lt HDn.out.1)).trans HDn.out.1)
              clear hw5 b5' HDn
              clear pc0 pc1 pc2 pc3 pc4 pc5 pc6 pc7 pc8 pc9 pc10 pc11 pc12 pc13
              clear x0 x1 x2 x3 x4 x5 x6 x7 x8 x9
              go_cut [10] (fun s10 wx => s10 = .int .i64 (bareN p) ∧ wx = w5)
              case first =>
                have p1 := cell_blk (i := 1) HP5.out
                have p13 := cell_blk (i := 13) HP5.out
                simp at p1 p13
                have a0 := hak.1
                have a1 := hak.2
                by_cases k1 : p.bo < -99999
                · go_wp2_with fail
                  all_goals (go_meet; exact ⟨congrArg (Value.int IntKind.i64) (by unfold bareN; omega), rfl⟩)
                · by_cases k2 : 99999 < p.bo
                  · have k3 : -99999 ≤ p.bo := by omega
                    clear k1
                    go_wp2_with fail
                    all_goals (go_meet; exact ⟨congrArg (Value.int IntKind.i64) (by unfold bareN; omega), rfl⟩)
                  · have k3 : -99999 ≤ p.bo := by omega
                    have k4 : p.bo ≤ 99999 := by omega
                    clear k1 k2
                    go_wp2_with fail
                    all_goals (go_meet; exact ⟨congrArg (Value.int IntKind.i64) (by unfold bareN; omega), rfl⟩)
              case rest =>
                obtain ⟨rfl, rfl⟩ := hcut
                have x0 := cell_blk (i := 0) HX5.out
                have x1 := cell_blk (i := 1) HX5.out
                have x2 := cell_blk (i := 2) HX5.out
                have x3 := cell_blk (i := 3) HX5.out
                have x4 := cell_blk (i := 4) HX5.out
                have x5 := cell_blk (i := 5) HX5.out
                have x6 := cell_blk (i := 6) HX5.out
                have x7 := cell_blk (i := 7) HX5.out
                have x8 := cell_blk (i := 8) HX5.out
                have x9 := cell_blk (i := 9) HX5.out
                simp at x0 x1 x2 x3 x4 x5 x6 x7 x8 x9
                obtain ⟨A, hA⟩ : ∃ A, attackA xs ps p i = A := ⟨_, rfl⟩
                have hge := attack_ge (xs := xs) (ps := ps) (p := p) (id := i) hak
                have hat := hatt.out wc HB5.out hL hG i p hp
                rw [hA] at hge hat
                have HA := Lib.hid hA
                have g1 : decide (A < bareN p) = false := by simp; omega
                have g2 : decide ((99999 : Int) < A) = false := by simp; omega
                have HG3 := Lib.hid hge.2.2
                have HAT := Lib.hid hat
                have hall : downK ps n = ps.map bareP := by rw [← HN.out]; exact downK_all ps
                have hgo : GoodB xs (downK ps n) := hG.ups (by rw [hall, bare_map])
                have hdi : (downK ps n)[i]? = some (bareP p) := by rw [hall, List.getElem?_map, hp]; rfl
                have hlu : LifeOk ⟨uqk, unk, uck, some ⟨g, 0, none⟩, n, ucp, ul0, ul1, utn, upy, umo, uqe, une, uce, ub0, ub1⟩ := by
                  obtain ⟨r0, r1, r2, r3⟩ := HD5.out.rest
                  dsimp only at r0 r1 r2 r3
                  obtain ⟨L0, L1, L2, L3⟩ := hL
                  refine ⟨?_, ?_, ?_, ?_⟩ <;> dsimp only at * <;> simp only [r0, r1, r2, r3] <;> assumption
                have hdown : attackA xs (downK ps n) (bareP p) i = bareN p := by
                  rw [attack_down (p := bareP p) hak (fun q hq => by rw [hall] at hq; obtain ⟨q', -, rfl⟩ := List.mem_map.1 hq; rfl)]
                  rfl
                have HDA := Lib.hid fun (W : World) (hW : Below wc.heap.size wc W) => attack_may ⟨uqk, unk, uck, some ⟨g, 0, none⟩, n, ucp, ul0, ul1, utn, upy, umo, uqe, une, uce, ub0, ub1⟩ xs (downK ps n) i (bareP p) W ((HD5.out.later hW).tab hlen.out.1 (by rw [downK_len]; exact hlen.out.2)) hlu hgo hdi hfew.out
                rw [hdown] at HDA
                have HLG2 := Lib.hid (And.intro hL hG)
                clear hA hge hat hall hgo hdi hlu hdown hak HD5 hL hG HLG
                simp only [Tb.row] at *
                go_wp2_with fail
                refine HAT.out.mono ?_
                rintro e w6 ⟨rfl, b6⟩
                have HB6 := Lib.hid (HB5.out.trans (b6.mono HB5.out.size))
                have HX6 := Lib.hid ((b6.block _ (heap_lt HX5.out)).trans HX5.out)
                have HP6 := Lib.hid ((b6.block _ (heap_lt HP5.out)).trans HP5.out)
                have HU6 := Lib.hid ((b6.block _ (heap_lt HU5.out)).trans HU5.out)
                have HB56 := Lib.hid b6
                clear b6
                clear x0 x1 x2 x3 x4 x5 x6 x7 x8 x9
                have z0 := cell_blk (i := 0) HU6.out
                have z1 := cell_blk (i := 1) HU6.out
                have z2 := cell_blk (i := 2) HU6.out
                have z3 := cell_blk (i := 3) HU6.out
                have z4 := cell_blk (i := 4) HU6.out
                have z5 := cell_blk (i := 5) HU6.out
                have z6 := cell_blk (i := 6) HU6.out
                have z7 := cell_blk (i := 7) HU6.out
                have z8 := cell_blk (i := 8) HU6.out
                have z9 := cell_blk (i := 9) HU6.out
                simp at z0 z1 z2 z3 z4 z5 z6 z7 z8 z9
                go_wp2_with fail
                refine (HDA.out w6 HB56.out).mono ?_
                rintro e w7 ⟨rfl, b7⟩
                have HB7 := Lib.hid (HB6.out.trans (b7.mono HB6.out.size))
                have HX7 := Lib.hid ((b7.block _ (heap_lt HX6.out)).trans HX6.out)
                have HP7 := Lib.hid ((b7.block _ (heap_lt HP6.out)).trans HP6.out)
                clear b7 HDA HU6 HB56 HP6 HX6
                clear z0 z1 z2 z3 z4 z5 z6 z7 z8 z9
                have x0 := cell_blk (i := 0) HX7.out
                have x1 := cell_blk (i := 1) HX7.out
                have x2 := cell_blk (i := 2) HX7.out
                have x3 := cell_blk (i := 3) HX7.out
                have x4 := cell_blk (i := 4) HX7.out
                have x5 := cell_blk (i := 5) HX7.out
                have x6 := cell_blk (i := 6) HX7.out
                have x7 := cell_blk (i := 7) HX7.out
                have x8 := cell_blk (i := 8) HX7.out
                have x9 := cell_blk (i := 9) HX7.out
                simp at x0 x1 x2 x3 x4 x5 x6 x7 x8 x9
                have p5 := cell_blk (i := 5) HP7.out
                simp at p5
                by_cases hz : p.zn = 2
                · have z0 : ((p.zn : Int) != 2) = false := by simp [hz]
                  clear hz
                  by_cases o1 : oth < 0
                  · skip
                    go_wp2_with (go_at_call 7; refine (lives_any _).mono ?_; rintro e wy ⟨rfl, by'⟩)
                    go_ret
                    exact ⟨rfl, HB7.out.trans (by'.mono HB7.out.size)⟩
                  · by_cases o2 : (n : Int) ≤ oth
                    · skip
                      go_wp2_with (go_at_call 7; refine (lives_any _).mono ?_; rintro e wy ⟨rfl, by'⟩)
                      go_ret
                      exact ⟨rfl, HB7.out.trans (by'.mono HB7.out.size)⟩
                    · obtain ⟨j, rfl⟩ : ∃ j : Nat, oth = (j : Int) := ⟨oth.toNat, by omega⟩
                      have j0 : (0 : Int) ≤ (j : Int) := by omega
                      have j3 : (j : Int) < (n : Int) := by omega
                      have j4 : j < n := by omega
                      clear o1 o2
                      go_wp2_with fail
                      refine (hdup.out w7 HB7.out).mono ?_
                      rintro e w8 ⟨⟨u2, g2, rfl, hD⟩, b8'⟩
                      have HB8 := Lib.hid (HB7.out.trans (b8'.mono HB7.out.size))
                      obtain ⟨vqk, vnk, vck, vqp, vnp, vcp, vl0, vl1, vtn, vpy, vmo, vqe, vne, vce, vb0, vb1⟩ := u2
                      obtain rfl : n = vnp := HN.out.symm.trans hD.np.symm
                      obtain ⟨hq, tail, hg⟩ := hD.pcs (by have := HN.out; omega)
                      dsimp only at hq
                      subst hq
                      have hg8 := heap_lt hg
                      have hgn2 : w7.heap.size ≤ g2 := hD.new
                      obtain ⟨q, hqj⟩ : ∃ q, ps[j]? = some q := ⟨ps[j]'(by have := HN.out; omega), List.getElem?_eq_getElem _⟩
                      obtain ⟨w9, hw9⟩ : ∃ w9, w9 = w8.alloc (.cells #[.slice vqk vnk vck, .slice (some ⟨g2, 0, none⟩) n vcp, .int .i64 vl0, .int .i64 vl1, .int .i64 vtn, .int .u8 vpy, .int .i64 vmo, .slice vqe vne vce, .bool vb0, .bool vb1] 28) := ⟨_, rfl⟩
                      have b9' : Below w8.heap.size w8 w9 := by rw [hw9]; exact (Below.refl _ _).alloc (Nat.le_refl _) _
                      have HX9 := Lib.hid (show w9.heap[w8.heap.size]? = some (.cells #[.slice vqk vnk vck, .slice (some ⟨g2, 0, none⟩) n vcp, .int .i64 vl0, .int .i64 vl1, .int .i64 vtn, .int .u8 vpy, .int .i64 vmo, .slice vqe vne vce, .bool vb0, .bool vb1] 28 (0, 0)) by rw [hw9]; exact heap_alloc_new _ _)
                      have hD9 := hD.later b9'
                      have hg9 := (b9'.block _ hg8).trans hg
                      have hcf := flat_get (size := 14) (ps.map pcV) (fun c hc => by obtain ⟨p, -, rfl⟩ := List.mem_map.1 hc; rfl) j 7 (pcV q) (by simp [hqj]) (by omega)
                      have hck : w9.cell? ⟨g2, j * 14 + 7, none⟩ = some (.bool q.up) := by
                        have hl := (List.getElem?_eq_some_iff.1 (hcf.trans (show (pcV q)[7]? = some (.bool q.up) from rfl))).1
                        rw [cell_blk hg9, Array.getElem?_append_left (by simpa using hl), List.getElem?_toArray]
                        exact hcf
                      have hfk : w9.frozen? ⟨g2, j * 14 + 7, none⟩ = false := free_blk hg9
                      have HB9 := Lib.hid (HB8.out.trans (b9'.mono HB8.out.size))
                      obtain ⟨W, hW⟩ : ∃ W, W = w9.setCell ⟨g2, j * 14 + 7, none⟩ (.bool true) := ⟨_, rfl⟩
                      have hDW : DupT W w7.heap.size D ⟨qk, nk, ck, some ⟨b, o, none⟩, n, cp, tl0, tl1, tn, py, mo, qe, ne, ce, b0, b1⟩ ⟨vqk, vnk, vck, some ⟨g2, 0, none⟩, n, vcp, vl0, vl1, vtn, vpy, vmo, vqe, vne, vce, vb0, vb1⟩ xs (ps.set j { q with up := true }) g2 := by rw [hW]; exact hD9.set hqj true
                      have HXW := Lib.hid (show W.heap[w8.heap.size]? = some (.cells #[.slice vqk vnk vck, .slice (some ⟨g2, 0, none⟩) n vcp, .int .i64 vl0, .int .i64 vl1, .int .i64 vtn, .int .u8 vpy, .int .i64 vmo, .slice vqe vne vce, .bool vb0, .bool vb1] 28 (0, 0)) by rw [hW]; exact (set_other (by omega)).trans HX9.out)
                      have HBW := Lib.hid (show Below w.heap.size w W by rw [hW]; exact set_below HB9.out (Nat.le_trans HB7.out.size hgn2))
                      have hup := set_upge hqj
                      obtain ⟨p2, hp2, -, -⟩ := hup.at' i p hp
                      have hlu : LifeOk ⟨vqk, vnk, vck, some ⟨g2, 0, none⟩, n, vcp, vl0, vl1, vtn, vpy, vmo, vqe, vne, vce, vb0, vb1⟩ := by
                        obtain ⟨r0, r1, r2, r3⟩ := hDW.rest
                        dsimp only at r0 r1 r2 r3
                        obtain ⟨L0, L1, L2, L3⟩ := HLG2.out.1
                        refine ⟨?_, ?_, ?_, ?_⟩ <;> dsimp only at * <;> simp only [r0, r1, r2, r3] <;> assumption
                      have hat2 := attack_may ⟨vqk, vnk, vck, some ⟨g2, 0, none⟩, n, vcp, vl0, vl1, vtn, vpy, vmo, vqe, vne, vce, vb0, vb1⟩ xs (ps.set j { q with up := true }) i p2 W (hDW.tab hlen.out.1 (by rw [List.length_set]; exact hlen.out.2)) hlu (HLG2.out.2.ups (set_bare hqj true)) hp2 hfew.out
                      have hle := attack_up (xs := xs) (id := i) hup hp hp2
                      rw [HA.out] at hle
                      generalize attackA xs (ps.set j { q with up := true }) p2 i = A2 at hat2 hle
                      have g3 : decide (A ≤ A2) = true := by simpa using hle
                      have HAT2 := Lib.hid hat2
                      have HW9 := Lib.hid hw9
                      have HWW := Lib.hid hW
                      clear hD hg tail hw9 b9' hD9 hg9 hcf hW hDW hup hp2 hlu hat2 hle hqj b8'
                      clear x0 x1 x2 x3 x4 x5 x6 x7 x8 x9 p5
                      simp only [Tb.row] at *
                      have v0 := cell_blk (i := 0) HX9.out
                      have v1 := cell_blk (i := 1) HX9.out
                      have v2 := cell_blk (i := 2) HX9.out
                      have v3 := cell_blk (i := 3) HX9.out
                      have v4 := cell_blk (i := 4) HX9.out
                      have v5 := cell_blk (i := 5) HX9.out
                      have v6 := cell_blk (i := 6) HX9.out
                      have v7 := cell_blk (i := 7) HX9.out
                      have v8 := cell_blk (i := 8) HX9.out
                      have v9 := cell_blk (i := 9) HX9.out
                      simp at v0 v1 v2 v3 v4 v5 v6 v7 v8 v9
                      go_wp2_with (rw [← HW9.out])
                      rw [← HWW.out]
                      refine HAT2.out.mono ?_
                      rintro e w11 ⟨rfl, b11⟩
                      have HB11 := Lib.hid (HBW.out.trans (b11.mono HBW.out.size))
                      clear b11 v0 v1 v2 v3 v4 v5 v6 v7 v8 v9
                      go_wp2_with (go_at_call 7; refine (lives_any _).mono ?_; rintro e wy ⟨rfl, by'⟩)
                      go_ret
                      exact ⟨rfl, HB11.out.trans (by'.mono HB11.out.size)⟩
                · have z0 : ((p.zn : Int) != 2) = true := by simp; omega
                  have z1 : (A != bareN p) = false := by simp [HG3.out hz]
                  clear hz
                  by_cases o1 : oth < 0
                  · skip
                    go_wp2_with (go_at_call 7; refine (lives_any _).mono ?_; rintro e wy ⟨rfl, by'⟩)
                    go_ret
                    exact ⟨rfl, HB7.out.trans (by'.mono HB7.out.size)⟩
                  · by_cases o2 : (n : Int) ≤ oth
                    · skip
                      go_wp2_with (go_at_call 7; refine (lives_any _).mono ?_; rintro e wy ⟨rfl, by'⟩)
                      go_ret
                      exact ⟨rfl, HB7.out.trans (by'.mono HB7.out.size)⟩
                    · obtain ⟨j, rfl⟩ : ∃ j : Nat, oth = (j : Int) := ⟨oth.toNat, by omega⟩
                      have j0 : (0 : Int) ≤ (j : Int) := by omega
                      have j3 : (j : Int) < (n : Int) := by omega
                      have j4 : j < n := by omega
                      clear o1 o2
                      go_wp2_with fail
                      refine (hdup.out w7 HB7.out).mono ?_
                      rintro e w8 ⟨⟨u2, g2, rfl, hD⟩, b8'⟩
                      have HB8 := Lib.hid (HB7.out.trans (b8'.mono HB7.out.size))
                      obtain ⟨vqk, vnk, vck, vqp, vnp, vcp, vl0, vl1, vtn, vpy, vmo, vqe, vne, vce, vb0, vb1⟩ := u2
                      obtain rfl : n = vnp := HN.out.symm.trans hD.np.symm
                      obtain ⟨hq, tail, hg⟩ := hD.pcs (by have := HN.out; omega)
                      dsimp only at hq
                      subst hq
                      have hg8 := heap_lt hg
                      have hgn2 : w7.heap.size ≤ g2 := hD.new
                      obtain ⟨q, hqj⟩ : ∃ q, ps[j]? = some q := ⟨ps[j]'(by have := HN.out; omega), List.getElem?_eq_getElem _⟩
                      obtain ⟨w9, hw9⟩ : ∃ w9, w9 = w8.alloc (.cells #[.slice vqk vnk vck, .slice (some ⟨g2, 0, none⟩) n vcp, .int .i64 vl0, .int .i64 vl1, .int .i64 vtn, .int .u8 vpy, .int .i64 vmo, .slice vqe vne vce, .bool vb0, .bool vb1] 28) := ⟨_, rfl⟩
                      have b9' : Below w8.heap.size w8 w9 := by rw [hw9]; exact (Below.refl _ _).alloc (Nat.le_refl _) _
                      have HX9 := Lib.hid (show w9.heap[w8.heap.size]? = some (.cells #[.slice vqk vnk vck, .slice (some ⟨g2, 0, none⟩) n vcp, .int .i64 vl0, .int .i64 vl1, .int .i64 vtn, .int .u8 vpy, .int .i64 vmo, .slice vqe vne vce, .bool vb0, .bool vb1] 28 (0, 0)) by rw [hw9]; exact heap_alloc_new _ _)
                      have hD9 := hD.later b9'
                      have hg9 := (b9'.block _ hg8).trans hg
                      have hcf := flat_get (size := 14) (ps.map pcV) (fun c hc => by obtain ⟨p, -, rfl⟩ := List.mem_map.1 hc; rfl) j 7 (pcV q) (by simp [hqj]) (by omega)
                      have hck : w9.cell? ⟨g2, j * 14 + 7, none⟩ = some (.bool q.up) := by
                        have hl := (List.getElem?_eq_some_iff.1 (hcf.trans (show (pcV q)[7]? = some (.bool q.up) from rfl))).1
                        rw [cell_blk hg9, Array.getElem?_append_left (by simpa using hl), List.getElem?_toArray]
                        exact hcf
                      have hfk : w9.frozen? ⟨g2, j * 14 + 7, none⟩ = false := free_blk hg9
                      have HB9 := Lib.hid (HB8.out.trans (b9'.mono HB8.out.size))
                      obtain ⟨W, hW⟩ : ∃ W, W = w9.setCell ⟨g2, j * 14 + 7, none⟩ (.bool true) := ⟨_, rfl⟩
                      have hDW : DupT W w7.heap.size D ⟨qk, nk, ck, some ⟨b, o, none⟩, n, cp, tl0, tl1, tn, py, mo, qe, ne, ce, b0, b1⟩ ⟨vqk, vnk, vck, some ⟨g2, 0, none⟩, n, vcp, vl0, vl1, vtn, vpy, vmo, vqe, vne, vce, vb0, vb1⟩ xs (ps.set j { q with up := true }) g2 := by rw [hW]; exact hD9.set hqj true
                      have HXW := Lib.hid (show W.heap[w8.heap.size]? = some (.cells #[.slice vqk vnk vck, .slice (some ⟨g2, 0, none⟩) n vcp, .int .i64 vl0, .int .i64 vl1, .int .i64 vtn, .int .u8 vpy, .int .i64 vmo, .slice vqe vne vce, .bool vb0, .bool vb1] 28 (0, 0)) by rw [hW]; exact (set_other (by omega)).trans HX9.out)
                      have HBW := Lib.hid (show Below w.heap.size w W by rw [hW]; exact set_below HB9.out (Nat.le_trans HB7.out.size hgn2))
                      have hup := set_upge hqj
                      obtain ⟨p2, hp2, -, -⟩ := hup.at' i p hp
                      have hlu : LifeOk ⟨vqk, vnk, vck, some ⟨g2, 0, none⟩, n, vcp, vl0, vl1, vtn, vpy, vmo, vqe, vne, vce, vb0, vb1⟩ := by
                        obtain ⟨r0, r1, r2, r3⟩ := hDW.rest
                        dsimp only at r0 r1 r2 r3
                        obtain ⟨L0, L1, L2, L3⟩ := HLG2.out.1
                        refine ⟨?_, ?_, ?_, ?_⟩ <;> dsimp only at * <;> simp only [r0, r1, r2, r3] <;> assumption
                      have hat2 := attack_may ⟨vqk, vnk, vck, some ⟨g2, 0, none⟩, n, vcp, vl0, vl1, vtn, vpy, vmo, vqe, vne, vce, vb0, vb1⟩ xs (ps.set j { q with up := true }) i p2 W (hDW.tab hlen.out.1 (by rw [List.length_set]; exact hlen.out.2)) hlu (HLG2.out.2.ups (set_bare hqj true)) hp2 hfew.out
                      have hle := attack_up (xs := xs) (id := i) hup hp hp2
                      rw [HA.out] at hle
                      generalize attackA xs (ps.set j { q with up := true }) p2 i = A2 at hat2 hle
                      have g3 : decide (A ≤ A2) = true := by simpa using hle
                      have HAT2 := Lib.hid hat2
                      have HW9 := Lib.hid hw9
                      have HWW := Lib.hid hW
                      clear hD hg tail hw9 b9' hD9 hg9 hcf hW hDW hup hp2 hlu hat2 hle hqj b8'
                      clear x0 x1 x2 x3 x4 x5 x6 x7 x8 x9 p5
                      simp only [Tb.row] at *
                      have v0 := cell_blk (i := 0) HX9.out
                      have v1 := cell_blk (i := 1) HX9.out
                      have v2 := cell_blk (i := 2) HX9.out
                      have v3 := cell_blk (i := 3) HX9.out
                      have v4 := cell_blk (i := 4) HX9.out
                      have v5 := cell_blk (i := 5) HX9.out
                      have v6 := cell_blk (i := 6) HX9.out
                      have v7 := cell_blk (i := 7) HX9.out
                      have v8 := cell_blk (i := 8) HX9.out
                      have v9 := cell_blk (i := 9) HX9.out
                      simp at v0 v1 v2 v3 v4 v5 v6 v7 v8 v9
                      go_wp2_with (rw [← HW9.out])
                      rw [← HWW.out]
                      refine HAT2.out.mono ?_
                      rintro e w11 ⟨rfl, b11⟩
                      have HB11 := Lib.hid (HBW.out.trans (b11.mono HBW.out.size))
                      clear b11 v0 v1 v2 v3 v4 v5 v6 v7 v8 v9
                      go_wp2_with (go_at_call 7; refine (lives_any _).mono ?_; rintro e wy ⟨rfl, by'⟩)
                      go_ret
                      exact ⟨rfl, HB11.out.trans (by'.mono HB11.out.size)⟩
end Go.Proofs.Ytomhlgamdmcneaa
