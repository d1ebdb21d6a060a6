/- More events set no less off, plain; events appended to events of the call's own. -/
import Derived.Test.YtggmiiifpocfdaaMtLives
import Derived.Laws.AppendOwn
namespace Go.Proofs.Ytggmiiifpocfdaa
open Go.RowKit Go.Lib Go.Shelf

theorem off_mono (mo who id : Int) (f : Fx) (l m : List Ev) (h : offB mo who id f l = true) : offB mo who id f (l ++ m) = true := by
  unfold offB at *
  split at h
  · rename_i h3; rw [if_pos h3, List.any_append, h]; rfl
  · rename_i h3
    split at h
    · rename_i h4; rw [if_neg h3, if_pos h4, List.any_append, h]; rfl
    · cases h
theorem off_nil (mo who id : Int) (f : Fx) : offB mo who id f [] = false := by
  unfold offB
  split
  · rfl
  · split <;> rfl
theorem off_when_if (mo who id : Int) (f : Fx) (l : List Ev) (h : offB mo who id { f with mode := 3 } l = true) : offB mo who id { f with mode := 4 } l = true := by
  unfold offB at *
  rw [if_pos rfl] at h
  rw [if_neg (show ¬ (4 : Int) = 3 by decide), if_pos (.inl rfl)]
  obtain ⟨x, hx, hp⟩ := List.any_eq_true.1 h
  simp only [Bool.and_eq_true] at hp
  exact List.any_eq_true.2 ⟨x, hx, hp.2⟩
theorem off_late (M who id : Int) (f : Fx) (l : List Ev) (h : ∀ x ∈ l, x.2.1 < M) : offB M who id { f with mode := 3 } l = false := by
  unfold offB
  rw [if_pos rfl, List.any_eq_false]
  intro x hx
  have : (x.2.1 == M) = false := by have := h x hx; simp; omega
  simp [this]

theorem flat_len (es : List Ev) : (es.map evV).flatten.length = es.length * 4 := by
  induction es with
  | nil => rfl
  | cons x l ih => rw [List.map_cons, List.flatten_cons, List.length_append, ih, List.length_cons, Nat.succ_mul, Nat.add_comm]; rfl
theorem flat_one (es : List Ev) : ∀ u ∈ (es.map evV).flatten, u.oneCell' = true := by
  intro u hu
  obtain ⟨l, hl, hu⟩ := List.mem_flatten.1 hu
  obtain ⟨x, -, rfl⟩ := List.mem_map.1 hl
  simp [evV] at hu
  rcases hu with rfl | rfl | rfl | rfl <;> rfl
/-- Events of the call's own, one more list of them behind. -/
theorem evs_own {w : World} {B : Nat} {v : Value} {ds es : List Ev} {q : Option Addr} {c : Nat} (hown : w.ownsRow B 39 4 v ds.length (ds.map evV).flatten) (h : RowIn w 4 32 EvIn (.slice q es.length c) es) (hl : ds.length + es.length ≤ 2000) (hB : B ≤ w.heap.size) :
    ∃ v' w', (Builtin.append_ #[25, 25] 25 #[v, .slice q es.length c]).run Try.prog w = .ok v' w' ∧ w'.ownsRow B 39 4 v' (ds ++ es).length ((ds ++ es).map evV).flatten ∧ Below B w w' := by
  have hi := ev_info
  have hz := ev_zero
  obtain ⟨i, hi1, hi2⟩ := Option.map_eq_some_iff.1 hi
  simp only [Prod.mk.injEq] at hi2
  rw [hi1] at hz
  obtain ⟨z, hz1⟩ := Option.isSome_iff_exists.1 hz
  have hs := src_row (P := Try.prog) (t := 25) (e := 39) Try.underlying25 (f := evV) h (fun cs x hx => hx) (fun x _ => rfl) (fun x u hu => by simp [evV] at hu; rcases hu with rfl | rfl | rfl | rfl <;> rfl) (row_none h)
  by_cases h0 : es.length = 0
  · obtain rfl := List.length_eq_zero_iff.1 h0
    refine ⟨v, w, ?_, by simpa using hown, Below.refl _ _⟩
    rcases hown.2 with ⟨rfl, -⟩ | ⟨g, cap, cur, rfl, -, -, hnc, -⟩
    · exact run_append_nothing w _ _ _ _ i Try.underlying25 hi1 none 0 0 (Nat.le_refl _) _ (by rw [hi2.1]; exact hs)
    · exact run_append_nothing w _ _ _ _ i Try.underlying25 hi1 _ _ _ hnc _ (by rw [hi2.1]; exact hs)
  · obtain ⟨q', c', hq, -, -, hx⟩ := h
    simp only [Value.slice.injEq] at hq
    obtain ⟨rfl, -, rfl⟩ := hq
    obtain ⟨g, o, rfl, -⟩ := hx 0 (es[0]'(by omega)) (List.getElem?_eq_getElem _)
    have hcell : ∀ j u, (es.map evV).flatten[j]? = some u → w.cell? ((⟨g, o, none⟩ : Addr).add j) = some u := by
      intro j u hu
      have hjl := (List.getElem?_eq_some_iff.1 hu).1
      rw [flat_len] at hjl
      have hk : j / 4 < es.length := (Nat.div_lt_iff_lt_mul (by omega)).2 hjl
      obtain ⟨x, hxk⟩ : ∃ x, es[j / 4]? = some x := ⟨es[j / 4], List.getElem?_eq_getElem _⟩
      obtain ⟨g2, o2, hq2, cs, -, hR, hc⟩ := hx _ x hxk
      cases hq2
      obtain rfl : cs = evV x := hR
      have hfl := flat_get (size := 4) (es.map evV) (fun d hd => by obtain ⟨y, -, rfl⟩ := List.mem_map.1 hd; rfl) (j / 4) (j % 4) (evV x) (by simp [hxk]) (Nat.mod_lt _ (by omega))
      rw [Nat.div_add_mod'] at hfl
      rw [hfl] at hu
      rw [← hc (j % 4) u hu, Addr.add_lit, Nat.add_assoc, Nat.div_add_mod']
    have hzs : z.cells.size = 4 := by
      have hk : (Try.prog.info? 39).bind (fun i => i.zero.map (·.cells.size)) = some 4 := by kernel_rfl
      rw [hi1] at hk
      simp only [Option.bind_some] at hk
      have hz2 : i.zero = some z := by simpa using hz1
      rw [hz2] at hk
      simpa using hk
    obtain ⟨v', w', hr, ho, hg, -⟩ := run_append_own (P := Try.prog) w B 25 25 39 i z 4 32 Try.underlying25 hi1 hz1 hi2.1 hi2.2 hzs (by omega) v ds.length _ hown ⟨g, o, none⟩ es.length c (es.map evV).flatten (flat_len es) hcell (flat_one es) (by unfold maxLen; omega) (by omega) hB
    refine ⟨v', w', hr, ?_, ?_⟩
    · rw [List.length_append, List.map_append, List.flatten_append]
      exact ho
    · refine ⟨hg.os, hg.tape, hg.output, hg.size, fun k hk => hg.block k (by omega) fun e => ?_⟩
      have := (hown.lt k e.symm).1
      omega
theorem own_row {w : World} {B : Nat} {v : Value} {es : List Ev} (h : w.ownsRow B 39 4 v es.length (es.map evV).flatten) (hl : es.length ≤ 2000) : ∃ q c, v = .slice q es.length c ∧ RowIn w 4 32 EvIn (.slice q es.length c) es := by
  rcases h.2 with ⟨rfl, h0⟩ | ⟨g, cap, cur, rfl, -, hh, -, -, -, htake⟩
  · obtain rfl := List.length_eq_zero_iff.1 h0
    exact ⟨none, 0, rfl, RowIn.nil _ _ _ _ _ _⟩
  · refine ⟨some ⟨g, 0, none⟩, cap, rfl, ?_⟩
    refine ⟨_, _, rfl, by unfold maxLen; omega, by omega, fun i x hx => ⟨g, 0, rfl, evV x, rfl, rfl, fun j u hu => ?_⟩⟩
    have hj : j < 4 := (List.getElem?_eq_some_iff.1 hu).1
    have hf := flat_get (size := 4) (es.map evV) (fun c hc => by obtain ⟨p, -, rfl⟩ := List.mem_map.1 hc; rfl) i j (evV x) (by simp [hx]) hj
    rw [hu] at hf
    have := h.cells (g := g) rfl (i * 4 + j) u hf
    rw [Addr.add_lit, ← Nat.add_assoc] at this
    exact this
end Go.Proofs.Ytggmiiifpocfdaa
