/- Layer 11 (match): the laws' arguments, opened: an effect, links. -/
import Derived.Test.YtggmiiifpocfdaaTbArgs
import Derived.Test.YtggmiiifpocfdaaMtLives
namespace Go.Proofs.Ytggmiiifpocfdaa
open Go.RowKit Go.Lib
open Go.ChangeShapes Go.WideShapes Go.Deep

section
variable {H : Type} {enc : TypeId × Value → H} {w : World}
theorem rd_shape {P : Program} {t e : TypeId} {n : Nat} {c : Value} {y : DataW H × List MemPlace} (ht : P.underlying t = some (.slice e)) (h : DataW.trod enc P w 0 (fun _ => true) true n t [c] = some y) : ∃ q k k', c = .slice q k k' := by
  rcases DataW.trod_slice ht h with ⟨hcs, _⟩ | ⟨a, len, cap, elems, rest, n, hf, hcs, _⟩
  · cases hcs; exact ⟨_, _, _, rfl⟩
  · cases hcs; exact ⟨_, _, _, rfl⟩
set_option maxRecDepth 100000 in
theorem rd_fx {v : Value} {d : DataW H} {p : List MemPlace} {r : Reach} {b0 : Nat} (hv : Value.okWide Try.prog w r b0 34 v) (h : DataW.Trod enc Try.prog w 0 (fun _ => true) true 34 v d p) :
    ∃ f : Fx, v = .agg f.row ∧ 0 ≤ f.side ∧ f.side ≤ 255 := by
  obtain ⟨cs, rfl, hsz⟩ := okWide_struct Try.underlying34 hv
  obtain ⟨l⟩ := cs
  obtain ⟨fuel, hf⟩ := h
  obtain ⟨ys, m, _, hy, _, hyl, hg⟩ := DataW.trod_struct Try.underlying34 hf
  match l, hsz.trans c_effect with
  | [c0, c1, c2, c3, c4, c5, c6, c7, c8, c9, c10, c11], _ =>
    match ys, hyl with
    | [y0, y1, y2, y3, y4, y5, y6, y7, y8, y9], _ =>
      obtain ⟨mo, rfl⟩ := rd_u8 (by have := hg 0 _ rfl; simpa [Value.cells, c_u8] using this)
      obtain ⟨ev, rfl⟩ := rd_u8 (by have := hg 1 _ rfl; simpa [Value.cells, c_u8] using this)
      obtain ⟨sd, rfl, hsd⟩ := rd_u8b (by have := hg 2 _ rfl; simpa [Value.cells, c_u8] using this)
      obtain ⟨qc, nc, cc, rfl⟩ := rd_shape (n := m) (y := y3) Try.underlying29 (by have := hg 3 _ rfl; simpa [Value.cells, c_exprs] using this)
      obtain ⟨pay, rfl⟩ := rd_int (by have := hg 4 _ rfl; simpa [Value.cells, c_int] using this)
      obtain ⟨dr, rfl⟩ := rd_int (by have := hg 5 _ rfl; simpa [Value.cells, c_int] using this)
      obtain ⟨tr, rfl⟩ := rd_bool (by have := hg 6 _ rfl; simpa [Value.cells, c_bool] using this)
      obtain ⟨pk, rfl⟩ := rd_int (by have := hg 7 _ rfl; simpa [Value.cells, c_int] using this)
      obtain ⟨sl, hsl⟩ := rd_sel (c0 := c8) (c1 := c9) (c2 := c10) (by have := hg 8 _ rfl; simpa [Value.cells, c_sel] using this)
      simp only [slV, List.cons.injEq, and_true] at hsl
      obtain ⟨rfl, rfl, rfl⟩ := hsl
      obtain ⟨qs, ns, cs, rfl⟩ := rd_shape (n := m) (y := y9) Try.underlying32 (by have := hg 9 _ rfl; simpa [Value.cells, c_steps] using this)
      exact ⟨⟨mo, ev, sd, qc, nc, cc, pay, dr, tr, pk, sl.side, sl.zone, sl.kind, qs, ns, cs⟩, rfl, by show (0 : Int) ≤ (sd : Int); omega, by show (sd : Int) ≤ 255; omega⟩
theorem c_link : Try.prog.cellsOf 52 = 6 := by kernel_rfl
theorem b_link : Try.prog.bytesOf 52 = 56 := by kernel_rfl
def LinkIn (_ : World) (c : List Value) (k : Nat) : Prop := k ≤ 255 ∧ c[0]? = some (.int .u8 k)
set_option maxRecDepth 100000 in
theorem rd_link (m : Nat) (cs : List Value) (y : DataW H × List MemPlace) (hcs : cs.length = 6) (h : DataW.trod enc Try.prog w 0 (fun _ => true) true m 52 cs = some y) : ∃ k : Nat, LinkIn w cs k := by
  obtain ⟨ys, m1, hm, hy, _, hyl, hf⟩ := DataW.trod_struct Try.underlying52 h
  subst hy
  match cs, hcs with
  | [c0, c1, c2, c3, c4, c5], _ =>
    match ys, hyl with
    | [y0, y1, y2, y3, y4, y5], _ =>
      obtain ⟨a0, rfl, h0⟩ := rd_u8b (by have := hf 0 _ rfl; simpa [c_u8] using this)
      exact ⟨a0, h0, rfl⟩
/-- Links that came in. -/
theorem rd_links {v : Value} {d : DataW H} {p : List MemPlace} (hv : ∃ a n c, v = .slice a n c) (h : DataW.Trod enc Try.prog w 0 (fun _ => true) true 35 v d p) (hL : Light Try.prog 35 d) : ∃ (q : Option Addr) (n c last : Nat), v = .slice q n c ∧ ChainAt w q n last := by
  obtain ⟨fuel, hf⟩ := h
  obtain ⟨a, n, c, rfl⟩ := hv
  simp only [Value.cells] at hf
  obtain ⟨xs, hxs⟩ := rd_row (fuel := fuel) (Q := LinkIn) (v := .slice a n c) (x := (d, p)) Try.underlying35 c_link b_link (by omega) (fun k cs y hk hc ht hl => rd_link k cs y hc ht) (by simpa using hf) hL
  obtain ⟨q, c', hq, hm, -, hx⟩ := hxs
  simp only [Value.slice.injEq] at hq
  obtain ⟨rfl, rfl, rfl⟩ := hq
  by_cases h0 : xs.length = 0
  · exact ⟨_, _, _, 0, rfl, hm, by omega, fun h => absurd h0 h⟩
  · have hl : xs.length - 1 < xs.length := by omega
    obtain ⟨b, o, rfl, cs, -, ⟨hk, hc0⟩, hc⟩ := hx (xs.length - 1) xs[xs.length - 1] (List.getElem?_eq_getElem hl)
    exact ⟨_, _, _, xs[xs.length - 1], rfl, hm, hk, fun _ => ⟨b, o, rfl, hc 0 _ hc0⟩⟩
end
end Go.Proofs.Ytggmiiifpocfdaa
