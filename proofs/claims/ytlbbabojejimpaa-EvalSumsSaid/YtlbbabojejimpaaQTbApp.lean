import Derived.Test.YtlbbabojejimpaaQTbA
import Derived.Deep.Upon
/- Lists appended onto none: their cells lie one behind the other in new memory. Events in memory. -/
namespace Go.Proofs.Ytlbbabojejimpaa
open Go.RowKit Go.Lib

/-- An append whose run is known. -/
theorem wpList_append_ran {P : Program} {ops : Array Oper} {rest : List Oper} {o : Oper} {a : Act} {w w' : World} {Q : Exit → Act → World → Prop} (hgd : o.guard = none) (s x : Operand) (t : TypeId)
    (ho : o.op = .call { callee := .builtin .append, args := #[s, x], argTypes := #[t, t] }) {v y v' : Value} (hs : a.eval s = v) (hx : a.eval x = y)
    (hr : (Builtin.append_ #[t, t] o.type #[v, y]).run P w = .ok v' w') (h : wpList P ops Q rest (a.put o.dst v') w') : wpList P ops Q (o :: rest) a w := by
  refine wpList_plain hgd fun K hK => ?_
  unfold Oper.wp execOp
  simp only [ho, resolve, invoke, builtin, Sem.run_bind, Sem.run_pure, Result.andThen_ok, List.map_toArray, List.map_cons, List.map_nil, hs, hx, hr]
  exact hK _ _ h

/-- A list appended onto none. -/
theorem append_fresh {P : Program} (w : World) (t ty e : TypeId) (i : TypeInfo) (z : Value) (ht : P.underlying t = some (.slice e)) (hi : P.info? e = some i) (hz : i.zero = some z) (q : Option Addr) (n c : Nat) (news : List Value)
    (hs : Src P i.size t (.slice q n c) n news w) (h47 : n * i.bytes ≤ 140737488355328) (hm : n ≤ 9223372036854775807) :
    ∃ q' c' w', (Builtin.append_ #[t, t] ty #[.slice none 0 0, .slice q n c]).run P w = .ok (.slice q' n c') w' ∧ Below w.heap.size w w' ∧
      (n ≠ 0 → q' = some ⟨w.heap.size, 0, none⟩ ∧ ∃ tail : Array Value, w'.heap[w.heap.size]? = some (.cells (news.toArray ++ tail) e (0, 0))) := by
  by_cases hn : n = 0
  · subst hn
    have hnil : news = [] := by
      have := hs.newsLen
      simpa using this
    subst hnil
    exact ⟨_, _, _, run_append_nothing w t t ty e i ht hi none 0 0 (Nat.le_refl _) _ hs, Below.refl _ _, fun h => absurd rfl h⟩
  · have h := run_append_grow_src w t t ty e i z ht hi hz none 0 0 [] (by simpa using run_firstCells_none (P := P) (w := w.drew) i.size 0 0 0) _ n news hs (by omega) (by omega) (growslice_fits (by omega) (by rw [Nat.zero_add]; exact h47))
    simp only [Nat.zero_add, List.nil_append] at h
    exact ⟨_, _, _, h, (Below.refl _ w).drew.alloc (Nat.le_refl _) _, fun _ => ⟨rfl, _, heap_alloc_new w.drew _⟩⟩

/-- A row's cells, one behind the other. -/
theorem src_row {α : Type} {P : Program} {w : World} {t e : TypeId} (ht : P.underlying t = some (.slice e)) {size B : Nat} {R : World → List Value → α → Prop} {q : Option Addr} {c : Nat} {xs : List α} {f : α → List Value} (h : RowIn w size B R (.slice q xs.length c) xs)
    (hf : ∀ cs x, R w cs x → cs = f x) (hs : ∀ x ∈ xs, (f x).length = size) (h1 : ∀ x, ∀ u ∈ f x, u.oneCell' = true) (hq : q = none → xs.length = 0) : Src P size t (.slice q xs.length c) xs.length (xs.map f).flatten w := by
  cases q with
  | none =>
    have h0 := hq rfl
    cases xs with
    | nil => simpa using Src.ofNil w ht c
    | cons x l => simp at h0
  | some a =>
    obtain ⟨q', c', hv, -, -, hx⟩ := h
    simp only [Value.slice.injEq, true_and] at hv
    have hlen : ((xs.map f).flatten).length = xs.length * size := by
      have : ∀ l : List α, (∀ x ∈ l, (f x).length = size) → ((l.map f).flatten).length = l.length * size := by
        intro l hl
        induction l with
        | nil => simp
        | cons x l ih =>
          rw [List.map_cons, List.flatten_cons, List.length_append, hl x List.mem_cons_self, ih fun y hy => hl y (List.mem_cons_of_mem _ hy), List.length_cons, Nat.succ_mul]
          omega
      exact this xs hs
    refine Src.ofSlice w ht a xs.length c _ hlen (fun j u hu => ?_) (fun u hu => ?_)
    · by_cases hz : size = 0
      · rw [hz, Nat.mul_zero] at hlen
        rw [List.length_eq_zero_iff.1 hlen] at hu
        simp at hu
      · have hj : j < xs.length * size := by rw [← hlen]; exact (List.getElem?_eq_some_iff.1 hu).1
        have hk : j / size < xs.length := (Nat.div_lt_iff_lt_mul (by omega)).2 hj
        obtain ⟨x, hxk⟩ : ∃ x, xs[j / size]? = some x := ⟨xs[j / size], List.getElem?_eq_getElem _⟩
        obtain ⟨g, o, hq', cs, hcs, hR, hc⟩ := hx _ x hxk
        have e := hf cs x hR
        subst e
        have hfl := flat_get (size := size) (xs.map f) (fun d hd => by obtain ⟨y, hy, rfl⟩ := List.mem_map.1 hd; exact hs y hy) (j / size) (j % size) (f x) (by simp [hxk]) (Nat.mod_lt _ (by omega))
        rw [Nat.div_add_mod'] at hfl
        rw [hfl] at hu
        have := hc (j % size) u hu
        rw [← hv.1] at hq'
        cases hq'
        rw [← this]
        rw [Addr.add_lit, Nat.add_assoc, Nat.div_add_mod']
    · obtain ⟨l, hl, hu⟩ := List.mem_flatten.1 hu
      obtain ⟨x, -, rfl⟩ := List.mem_map.1 hl
      exact h1 x u hu

abbrev Ev := Nat × Int × Int × Nat
def evV (e : Ev) : List Value := [.int .u8 e.1, .int .i64 e.2.1, .int .i64 e.2.2.1, .int .u8 e.2.2.2]
def EvIn (_ : World) (c : List Value) (e : Ev) : Prop := c = evV e
theorem ev_info : (Try.prog.info? 123).map (fun i => (i.size, i.bytes)) = some (4, 32) := by kernel_rfl
theorem ev_zero : ((Try.prog.info? 123).bind (·.zero)).isSome = true := by kernel_rfl
theorem row_none {α : Type} {w : World} {size B : Nat} {R : World → List Value → α → Prop} {q : Option Addr} {c : Nat} {xs : List α} (h : RowIn w size B R (.slice q xs.length c) xs) : q = none → xs.length = 0 := fun e => by
  obtain ⟨q', c', hv, -, -, hx⟩ := h
  simp only [Value.slice.injEq] at hv
  cases xs with
  | nil => rfl
  | cons x l =>
    obtain ⟨g, o, hq, -⟩ := hx 0 x rfl
    rw [← hv.1, e] at hq
    cases hq
theorem EvIn.stays : Stays EvIn := fun _ _ _ _ h _ => h
theorem evs_block {w : World} {g cap : Nat} {es : List Ev} {tail : Array Value} {ty : TypeId} (hb : w.heap[g]? = some (.cells ((es.map evV).flatten.toArray ++ tail) ty (0, 0))) (h1 : es.length ≤ maxLen) (h2 : es.length * 32 ≤ 140737488351232) : RowIn w 4 32 EvIn (.slice (some ⟨g, 0, none⟩) es.length cap) es := by
  refine ⟨_, _, rfl, h1, h2, fun i x hx => ?_⟩
  refine ⟨g, 0, rfl, evV x, rfl, rfl, fun j u hu => ?_⟩
  have hj : j < 4 := (List.getElem?_eq_some_iff.1 hu).1
  have hf := flat_get (size := 4) (es.map evV) (fun c hc => by obtain ⟨p, -, rfl⟩ := List.mem_map.1 hc; rfl) i j (evV x) (by simp [hx]) hj
  rw [hu] at hf
  have hl := (List.getElem?_eq_some_iff.1 hf).1
  have hcell : w.cell? ⟨g, 0 + i * 4 + j, none⟩ = ((es.map evV).flatten.toArray ++ tail)[0 + i * 4 + j]? := by simp [World.cell?, hb]
  rw [hcell, Nat.zero_add, Array.getElem?_append_left (by simpa using hl), List.getElem?_toArray]
  exact hf
theorem evs_append {w : World} {q : Option Addr} {c : Nat} {es : List Ev} (h : RowIn w 4 32 EvIn (.slice q es.length c) es) :
    ∃ q' c' w', (Builtin.append_ #[25, 25] 25 #[.slice none 0 0, .slice q es.length c]).run Try.prog w = .ok (.slice q' es.length c') w' ∧ Below w.heap.size w w' ∧ RowIn w' 4 32 EvIn (.slice q' es.length c') es := by
  have hi := ev_info
  have hz := ev_zero
  obtain ⟨i, hi1, hi2⟩ := Option.map_eq_some_iff.1 hi
  simp only [Prod.mk.injEq] at hi2
  rw [hi1] at hz
  obtain ⟨z, hz1⟩ := Option.isSome_iff_exists.1 hz
  have hs := src_row (P := Try.prog) (t := 25) (e := 123) Try.underlying25 (f := evV) h (fun cs x hx => hx) (fun x _ => rfl) (fun x u hu => by simp [evV] at hu; rcases hu with rfl | rfl | rfl | rfl <;> rfl) (row_none h)
  obtain ⟨-, -, -, hm, hb, -⟩ := h
  rw [← hi2.1] at hs
  have hm' := hm
  unfold maxLen at hm'
  obtain ⟨q', c', w', h1, h2, h3⟩ := append_fresh w _ _ _ i z Try.underlying25 hi1 hz1 _ _ _ _ hs (by rw [hi2.2]; omega) hm'
  refine ⟨q', c', w', h1, h2, ?_⟩
  by_cases h0 : es.length = 0
  · obtain rfl := List.length_eq_zero_iff.1 h0
    exact RowIn.nil _ _ _ _ _ _
  · obtain ⟨rfl, tail, hb'⟩ := h3 h0
    exact evs_block hb' hm hb
end Go.Proofs.Ytlbbabojejimpaa
