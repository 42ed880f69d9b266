/- Texts joined: RowPart. -/
import Derived.Test.YtnedcclmfokdnaaGreatJ11
import Derived.Great.BuildSlice
namespace Go.Proofs.YtnedcclmfokdnaaGreat
open Go Go.RowKit
section
variable {P : Program}
theorem set_take {α : Type} {l : List α} {k : Nat} (v : α) (h : k < l.length) : (l.set k v).take (k + 1) = l.take k ++ [v] := by
  rw [List.take_succ_eq_append_getElem (by simpa using h), List.take_set_of_le (Nat.le_refl _)]
  simp
theorem setRow_self (w : World) (g : Nat) (cur : Array Value) (t : TypeId) (fr : Nat × Nat) (hg : w.heap[g]? = some (.cells cur t fr)) : w.setRow g cur = w := by
  have hlt : g < w.heap.size := (Array.getElem?_eq_some_iff.1 hg).1
  have hv : w.heap[g] = .cells cur t fr := (Array.getElem?_eq_some_iff.1 hg).2
  unfold World.setRow
  cases w with
  | mk heap tape drawn os output =>
    congr 1
    apply Array.ext
    · simp
    · intro k h1 h2
      simp only [Array.getElem_modify]
      split
      · rename_i hk; subst hk; simp at hv; simp [hv]
      · rfl
def partTo (cur : Array Value) (off : Nat) (vs : List Value) : Array Value := (cur.toList.take off ++ vs ++ cur.toList.drop (off + vs.length)).toArray
theorem partTo_size {cur : Array Value} {off : Nat} {vs : List Value} (h : off + vs.length ≤ cur.size) : (partTo cur off vs).size = cur.size := by
  unfold partTo; simp; omega
theorem run_storeCells_part (g off : Nat) (t : TypeId) : ∀ (vs : List Value) (i : Nat) (cur : Array Value) (w : World), w.heap[g]? = some (.cells cur t (0, 0)) → off + i + vs.length ≤ cur.size → (∀ v ∈ vs, v.oneCell' = true) →
    (storeCells ⟨g, off, none⟩ vs i).run P w = .ok () (w.setRow g (partTo cur (off + i) vs))
  | [], i, cur, w, hg, _, _ => by
    have : partTo cur (off + i) [] = cur := by unfold partTo; simp
    rw [this, setRow_self w g cur t _ hg]
    rfl
  | v :: rest, i, cur, w, hg, hl, h1 => by
    have hi : off + i < cur.size := by simp at hl; omega
    have hadd : (⟨g, off, none⟩ : Addr).add i = ⟨g, off + i, none⟩ := by unfold Addr.add; split <;> simp_all
    have hcell : w.cell? ⟨g, off + i, none⟩ = some cur[off + i] := by simp [World.cell?, hg, hi]
    have hfro : w.frozen? ⟨g, off + i, none⟩ = false := by simp [World.frozen?, hg]
    have hst : (store ((⟨g, off, none⟩ : Addr).add i) v).run P w = .ok () (w.setRow g (cur.setIfInBounds (off + i) v)) := by
      rw [hadd, run_store P w _ v _ (h1 v (by simp)), hcell]
      simp [hfro, setCell_eq_setRow w g (off + i) cur t (0, 0) v hg]
    have ih := run_storeCells_part g off t rest (i + 1) (cur.setIfInBounds (off + i) v) (w.setRow g (cur.setIfInBounds (off + i) v)) (setRow_heap w g cur _ t _ hg) (by simp at hl ⊢; omega) (fun x hx => h1 x (by simp [hx]))
    simp only [storeCells, Sem.run_bind, hst, Result.andThen_ok, ih, setRow_setRow]
    congr 2
    unfold partTo
    rw [Array.toList_setIfInBounds, show off + (i + 1) = off + i + 1 by omega, set_take v (by simpa using hi), List.drop_set_of_lt (by omega)]
    simp [show off + i + 1 + rest.length = off + i + (rest.length + 1) by omega]
theorem run_storeVar_part (w : World) (g off : Nat) (t ty : TypeId) (old cells : Array Value) (hg : w.heap[g]? = some (.cells old t (0, 0))) (hi : (P.info? ty).map (·.size) = some cells.size)
    (ho : off + cells.size ≤ old.size) (h1 : cells.all (·.oneCell') = true) :
    (storeVar ty ⟨g, off, none⟩ (.agg cells)).run P w = .ok () (w.setRow g (partTo old off cells.toList)) := by
  have := run_storeCells_part (P := P) g off t cells.toList 0 old w hg (by simp; omega) (fun v hv => (Array.all_eq_true_iff_forall_mem.1 h1) v (by simpa using hv))
  rw [Nat.add_zero] at this
  cases hq : P.info? ty with
  | none => simp [hq] at hi
  | some i =>
    have hs : cells.size = i.size := by simp [hq] at hi; omega
    simp [storeVar, sizeOf, typeInfo, hq, Value.cells, hs, this]
theorem wp_store_part {o : Oper} {a : Act} {w : World} {K : Act → World → Prop} {Q : Exit → Act → World → Prop} (ty : TypeId) (x y : Operand) (ho : o.op = .store ty x y)
    (g off : Nat) (cells : Array Value) (hx : a.eval x = .pointer (some ⟨g, off, none⟩)) (hy : a.eval y = .agg cells)
    (t : TypeId) (old : Array Value) (hg : w.heap[g]? = some (.cells old t (0, 0))) (hi : (P.info? ty).map (·.size) = some cells.size)
    (hold : off + cells.size ≤ old.size) (h1 : cells.all (·.oneCell') = true)
    (h : K (a.put o.dst undef) (w.setRow g (partTo old off cells.toList))) : o.wp P a w K Q := by
  unfold Oper.wp execOp
  simp only [ho, hx, hy, Instr.storeAt, Instr.sureAddr, Sem.run_bind, Sem.run_pure, Result.andThen_ok, run_storeVar_part w g off t ty old cells hg hi hold h1]
  exact h
theorem wpList_store_part {ops : Array Oper} {rest : List Oper} {o : Oper} {a : Act} {w : World} {Q : Exit → Act → World → Prop} (hgd : o.guard = none) (ty : TypeId) (x y : Operand) (ho : o.op = .store ty x y)
    (hd : o.dst = none) (g off : Nat) (cells : Array Value) (hx : a.eval x = .pointer (some ⟨g, off, none⟩)) (hy : a.eval y = .agg cells)
    (t : TypeId) (old : Array Value) (hg : w.heap[g]? = some (.cells old t (0, 0))) (hi : (P.info? ty).map (·.size) = some cells.size)
    (hold : off + cells.size ≤ old.size) (h1 : cells.all (·.oneCell') = true)
    (h : wpList P ops Q rest a (w.setRow g (partTo old off cells.toList))) : wpList P ops Q (o :: rest) a w :=
  wpList_plain hgd fun _ hK => wp_store_part ty x y ho g off cells hx hy t old hg hi hold h1 (by rw [hd]; exact hK _ _ h)
theorem run_clear_part (w : World) (t e ty : TypeId) (z : Value) (ht : P.underlying t = some (.slice e)) (hv : ∀ w, (zeroValue e).run P w = .ok z w) (s : Nat) (hz : z.cells.size = s) (h1 : ∀ v ∈ z.cells, v.oneCell' = true) (hs : 0 < s) (g off n c : Nat) (hn : 0 < n)
    (t' : TypeId) (old : Array Value) (hg : w.heap[g]? = some (.cells old t' (0, 0))) (hold : off + n * s ≤ old.size) :
    ∃ vs : List Value, vs.length = n * s ∧ (Builtin.clear_ #[t] ty #[.slice (some ⟨g, off, none⟩) n c]).run P w = .ok (.tuple #[]) (w.setRow g (partTo old off vs)) := by
  obtain ⟨vs, hvs⟩ : ∃ vs, vs = (Builtin.zeroCells z.cells n).toList := ⟨_, rfl⟩
  have hl : vs.length = n * s := by rw [hvs]; simp [Builtin.zeroCells, hz]
  have ho : ∀ v ∈ vs, v.oneCell' = true := by
    intro v hv2
    rw [hvs] at hv2
    simp only [Builtin.zeroCells, Array.toList_map, List.mem_map] at hv2
    obtain ⟨i, _, rfl⟩ := hv2
    have hm : i % z.cells.size < z.cells.size := Nat.mod_lt _ (by omega)
    rw [getElem!_pos z.cells _ hm]
    exact h1 _ (Array.getElem_mem _)
  refine ⟨vs, hl, ?_⟩
  have hst := run_storeCells_part (P := P) g off t' vs 0 old w hg (by omega) ho
  rw [Nat.add_zero] at hst
  obtain ⟨m, rfl⟩ : ∃ m, n = m + 1 := ⟨n - 1, by omega⟩
  simp [Builtin.clear_, run_underlying ht, hv, ← hvs, hst]
end
structure RowAt {α : Type} (c : α → List Value) (s : Nat) (w : World) (g : Nat) (t : TypeId) (l : List α) : Prop where
  heap : ∃ cur : Array Value, w.heap[g]? = some (.cells cur t (0, 0)) ∧ l.length * s ≤ cur.size ∧ cur.toList.take (l.length * s) = l.flatMap c
theorem RowAt.of_own {α : Type} {c : α → List Value} {s : Nat} {w : World} {base g cap : Nat} {t : TypeId} {l : List α} (h : w.ownsRow base t s (.slice (some ⟨g, 0, none⟩) l.length cap) l.length (l.flatMap c)) : RowAt c s w g t l ∧ base ≤ g ∧ l.length ≤ cap := by
  rcases h.2 with ⟨h', _⟩ | ⟨g', cap', cur, h', hb, hg, hn, _, hcs, htake⟩
  · simp at h'
  · simp only [Value.slice.injEq, Option.some.injEq, Addr.mk.injEq, and_true, true_and] at h'
    obtain ⟨rfl, rfl⟩ := h'
    exact ⟨⟨cur, hg, by rw [hcs]; exact Nat.mul_le_mul_right _ hn, htake⟩, hb, hn⟩
theorem RowAt.later {α : Type} {c : α → List Value} {s : Nat} {w w' : World} {g : Nat} {t : TypeId} {l : List α} (h : RowAt c s w g t l) (hb : Below w.heap.size w w') : RowAt c s w' g t l := by
  obtain ⟨cur, h1, h2⟩ := h
  exact ⟨cur, (hb.block _ (size_of_block h1)).trans h1, h2⟩
theorem RowAt.cell {α : Type} {c : α → List Value} {s : Nat} {w : World} {g : Nat} {t : TypeId} {l : List α} (h : RowAt c s w g t l) (hc : ∀ x, (c x).length = s) {i j : Nat} {x : α} {u : Value} (hx : l[i]? = some x) (hu : (c x)[j]? = some u) : w.cell? ⟨g, i * s + j, none⟩ = some u := by
  obtain ⟨cur, h1, h2, h3⟩ := h
  have hf := flat_at hc l i x j u hx hu
  rw [← h3] at hf
  have hlt := (List.getElem?_eq_some_iff.1 hf).1
  rw [List.getElem?_take] at hf
  split at hf
  · simp [World.cell?, h1]
    simpa using hf
  · cases hf
theorem flat_set_at {α : Type} {c : α → List Value} {s : Nat} (hc : ∀ x, (c x).length = s) : ∀ (l : List α) (i : Nat) (x : α), i < l.length → (l.set i x).flatMap c = (l.flatMap c).take (i * s) ++ c x ++ (l.flatMap c).drop (i * s + s)
  | [], i, x, h => by simp at h
  | y :: l, 0, x, _ => by simp [hc]
  | y :: l, i + 1, x, h => by
    have := flat_set_at hc l i x (by simpa using h)
    rw [List.set_cons_succ, List.flatMap_cons, this, List.flatMap_cons]
    rw [show (i + 1) * s = s + i * s by rw [Nat.add_mul]; omega]
    rw [List.take_append, List.drop_append, hc, List.take_of_length_le (l := c y) (by rw [hc]; omega), List.drop_of_length_le (l := c y) (by rw [hc]; omega)]
    simp only [Nat.add_sub_cancel_left, List.nil_append, List.append_assoc]
    rw [show s + i * s + s - s = i * s + s by omega]
theorem RowAt.set {α : Type} {c : α → List Value} {s : Nat} {w : World} {g : Nat} {t : TypeId} {l : List α} (hc : ∀ x, (c x).length = s) {cur : Array Value} (h1 : w.heap[g]? = some (.cells cur t (0, 0))) (h2 : l.length * s ≤ cur.size) (h3 : cur.toList.take (l.length * s) = l.flatMap c) {i : Nat} (hi : i < l.length) (x : α) :
    RowAt c s (w.setRow g (partTo cur (i * s) (c x))) g t (l.set i x) := by
  have hle : i * s + s ≤ l.length * s := by
    have := Nat.mul_le_mul_right s (show i + 1 ≤ l.length from hi)
    rw [Nat.add_mul] at this; omega
  refine ⟨_, setRow_heap w g cur _ t _ h1, ?_, ?_⟩
  · rw [partTo_size (by rw [hc]; omega), List.length_set]; exact h2
  · rw [List.length_set, flat_set_at hc l i x hi, ← h3]
    unfold partTo
    simp only [List.take_take, hc, List.append_assoc]
    rw [show min (i * s) (l.length * s) = i * s by omega, List.take_append, show (cur.toList.take (i * s)).length = i * s by simp; omega, List.take_of_length_le (l := cur.toList.take (i * s)) (by simp; omega)]
    congr 1
    rw [List.take_append, hc, List.take_of_length_le (l := c x) (by rw [hc]; omega)]
    congr 1
    rw [List.drop_take]
    congr 1
    omega
theorem RowAt.sl {α : Type} {c : α → List Value} {s : Nat} {w : World} {g cap : Nat} {t : TypeId} {l : List α} (h : RowAt c s w g t l) (hc : ∀ x, (c x).length = s) (hcap : l.length ≤ cap) (hl : l.length ≤ 140737488355328) : Sl c s w w.heap.size (.slice (some ⟨g, 0, none⟩) l.length cap) l := by
  refine ⟨_, _, rfl, hcap, hl, fun _ => ⟨g, 0, rfl, ?_, fun i x hx j u hu => ?_⟩⟩
  · obtain ⟨cur, h1, _⟩ := h
    exact size_of_block h1
  · rw [Nat.zero_add]; exact h.cell hc hx hu
theorem RowAt.front {α : Type} {c : α → List Value} {s : Nat} {w : World} {g : Nat} {t : TypeId} {l : List α} (h : RowAt c s w g t l) (hc : ∀ x, (c x).length = s) (k : Nat) : RowAt c s w g t (l.take k) := by
  obtain ⟨cur, h1, h2, h3⟩ := h
  have hk : (l.take k).length * s ≤ l.length * s := Nat.mul_le_mul_right _ (by rw [List.length_take]; omega)
  refine ⟨cur, h1, by omega, ?_⟩
  have e : (l.take k).flatMap c = (l.flatMap c).take ((l.take k).length * s) := by
    have h0 : l.flatMap c = (l.take k).flatMap c ++ (l.drop k).flatMap c := by rw [← List.flatMap_append, List.take_append_drop]
    have h5 : ((l.take k).flatMap c).length = (l.take k).length * s := flat_length hc _
    rw [h0, ← h5, List.take_left]
  rw [e, ← h3, List.take_take, Nat.min_eq_left hk]
theorem RowAt.part {α : Type} {c : α → List Value} {s : Nat} {w : World} {g : Nat} {t : TypeId} {l : List α} {cur : Array Value} (h1 : w.heap[g]? = some (.cells cur t (0, 0))) (h2 : l.length * s ≤ cur.size) (h3 : cur.toList.take (l.length * s) = l.flatMap c) {off : Nat} {vs : List Value} (hoff : l.length * s ≤ off) (hle : off + vs.length ≤ cur.size) :
    RowAt c s (w.setRow g (partTo cur off vs)) g t l := by
  refine ⟨_, setRow_heap w g cur _ t _ h1, by rw [partTo_size hle]; exact h2, ?_⟩
  unfold partTo
  rw [List.append_assoc, List.take_append_of_le_length (by simp; omega), List.take_take, Nat.min_eq_left hoff, h3]
end Go.Proofs.YtnedcclmfokdnaaGreat
