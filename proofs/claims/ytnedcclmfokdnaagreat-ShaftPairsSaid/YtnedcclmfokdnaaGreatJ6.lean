/- Texts joined: Maps. -/
import Derived.Test.YtnedcclmfokdnaaGreatJ4
import Derived.Maps.Own
namespace Go.Proofs.YtnedcclmfokdnaaGreat
open Go.RowKit
def IMap (w : World) (r : Nat) (l : List (Int × Value)) : Prop :=
  ∃ es clock, w.heap[r]? = some (.map es clock) ∧ es.toList.map (fun e => (e.key, e.val)) = l.map fun p => (Value.int .i64 p.1, p.2)
theorem findNow_int (x : Int) : ∀ (es : List MapEntry) (l : List (Int × Value)) (i : Nat), es.map (fun e => (e.key, e.val)) = l.map (fun p => (Value.int .i64 p.1, p.2)) →
    (Instr.findNow (.int .i64) (.int .i64 x) es i).map (·.map (·.2)) = some (l.lookup x)
  | [], [], i, _ => rfl
  | [], _ :: _, i, h => by simp at h
  | _ :: _, [], i, h => by simp at h
  | e :: es, p :: l, i, h => by
    simp only [List.map_cons, List.cons.injEq, Prod.mk.injEq] at h
    obtain ⟨⟨hk, hv⟩, h⟩ := h
    have ih := findNow_int x es l (i + 1) h
    rw [Instr.findNow, hk]
    simp only [Instr.sameNow, if_pos]
    rw [List.lookup_cons]
    cases hb : x == p.1 with
    | true => simp [hv]
    | false => exact ih
section
variable {P : Program} {w : World} {r : Nat} {l : List (Int × Value)} {t k e : TypeId}
theorem IMap.lt (h : IMap w r l) : r < w.heap.size := by
  obtain ⟨es, c, hh, _⟩ := h
  rcases Nat.lt_or_ge r w.heap.size with hlt | hge
  · exact hlt
  · rw [Array.getElem?_eq_none hge] at hh; cases hh
theorem IMap.later {w' : World} (h : IMap w r l) (hb : Below w.heap.size w w') : IMap w' r l := by
  have hlt := h.lt
  obtain ⟨es, c, hh, he⟩ := h
  exact ⟨es, c, by rw [hb.block r hlt]; exact hh, he⟩
theorem IMap.made (w : World) : IMap (w.alloc (.map #[] 0)) w.heap.size [] := ⟨#[], 0, heap_alloc_new w _, rfl⟩
theorem check_int (hk : P.underlying k = some (.int .i64)) (b : Bool) (x : Int) : (Instr.checkKey b 10000 k (.int .i64 x)).run P w = .ok () w := by
  rw [show (10000 : Nat) = 9999 + 1 from rfl]
  unfold Instr.checkKey
  simp only [Sem.run_bind, run_underlying hk, Result.andThen]
  rfl
theorem run_lookup_i (ht : P.underlying t = some (.map k e)) (hk : P.underlying k = some (.int .i64)) (z : Value) (hz : (zeroValue e).run P w = .ok z w) (h : IMap w r l) (x : Int) (ok : Bool) :
    (Instr.lookup t (.map (some r)) (.int .i64 x) ok).run P w =
      .ok (if ok then .tuple #[(l.lookup x).getD z, .bool (l.lookup x).isSome] else (l.lookup x).getD z) w := by
  obtain ⟨es, c, hh, he⟩ := h
  have hf := findNow_int x es.toList l 0 he
  cases hn : Instr.findNow (.int .i64) (.int .i64 x) es.toList 0 with
  | none => rw [hn] at hf; cases hf
  | some q =>
    rw [hn] at hf
    simp only [Option.map_some, Option.some.injEq] at hf
    have hg : (getObj r).run P w = .ok (.map es c) w := by simp [getObj, Sem.run, hh]
    cases q with
    | none =>
      have hl : l.lookup x = none := by rw [← hf]; rfl
      rw [hl]
      simp only [Instr.lookup, Sem.run_bind, run_underlying ht, hg, Result.andThen, check_int hk, Instr.findKey, run_underlying hk, hn, Sem.run_pure, hz]
      cases ok <;> simp
    | some q =>
      have hl : l.lookup x = some q.2 := by rw [← hf]; rfl
      rw [hl]
      obtain ⟨i, v⟩ := q
      simp only [Instr.lookup, Sem.run_bind, run_underlying ht, hg, Result.andThen, check_int hk, Instr.findKey, run_underlying hk, hn, Sem.run_pure]
      cases ok <;> simp
theorem run_mapUpdate_new (ht : P.underlying t = some (.map k e)) (hk : P.underlying k = some (.int .i64)) (h : IMap w r l) (x : Int) (hx : l.lookup x = none) (v : Value) :
    ∃ w', (Instr.mapUpdate t (.map (some r)) (.int .i64 x) v).run P w = .ok () w' ∧ IMap w' r (l ++ [(x, v)]) ∧ w.grownBy w' (some r) := by
  have hlt := h.lt
  obtain ⟨es, c, hh, he⟩ := h
  have hf := findNow_int x es.toList l 0 he
  cases hn : Instr.findNow (.int .i64) (.int .i64 x) es.toList 0 with
  | none => rw [hn] at hf; cases hf
  | some q =>
    rw [hn, hx] at hf
    cases q with
    | some q => simp at hf
    | none =>
      have hg : (getObj r).run P w = .ok (.map es c) w := by simp [getObj, Sem.run, hh]
      have hs : ∀ o, (setObj r o).run P w = .ok () { w with heap := w.heap.setIfInBounds r o } := fun o => by simp [setObj, Sem.run, hh]
      refine ⟨_, by simp only [Instr.mapUpdate, Sem.run_bind, run_underlying ht, hg, Result.andThen, check_int hk, Instr.findKey, run_underlying hk, hn, Sem.run_pure, hs]; rfl, ?_, ?_⟩
      · refine ⟨es.push { key := .int .i64 x, val := v, born := c }, c + 1, by simp [hlt], by simp [he]⟩
      · refine ⟨rfl, rfl, rfl, by simp, fun i hi hne => ?_⟩
        have : r ≠ i := fun e => hne (by rw [e])
        simp [this]
theorem wpList_lookup_i {ops : Array Oper} {rest : List Oper} {o : Oper} {a : Act} {Q : Exit → Act → World → Prop} (hg : o.guard = none) (m x : Operand) (t : TypeId) (ok : Bool) (hop : o.op = Op.lookup t m x ok)
    {k e : TypeId} (ht : P.underlying t = some (.map k e)) (hk : P.underlying k = some (.int .i64)) (z : Value) (hz : ∀ w, (zeroValue e).run P w = .ok z w) (hm : a.eval m = .map (some r)) (n : Int) (hx : a.eval x = .int .i64 n)
    (h : IMap w r l) (u : Value) (hu : (if ok then .tuple #[(l.lookup n).getD z, .bool (l.lookup n).isSome] else (l.lookup n).getD z) = u) (hK : wpList P ops Q rest (a.put o.dst u) w) : wpList P ops Q (o :: rest) a w := by
  refine wpList_plain hg fun K hK' => ?_
  unfold Oper.wp
  simp [execOp, hop, hm, hx, run_lookup_i ht hk z (hz w) h n ok, Result.andThen]
  subst hu
  exact hK' _ _ (by simpa using hK)
theorem wpList_mapUpdate_new {ops : Array Oper} {rest : List Oper} {o : Oper} {a : Act} {Q : Exit → Act → World → Prop} (hg : o.guard = none) (m x v : Operand) (t : TypeId) (hop : o.op = Op.mapUpdate t m x v)
    {k e : TypeId} (ht : P.underlying t = some (.map k e)) (hk : P.underlying k = some (.int .i64)) (hm : a.eval m = .map (some r)) (n : Int) (hx : a.eval x = .int .i64 n) (val : Value) (hv : a.eval v = val)
    (h : IMap w r l) (hn : l.lookup n = none) (hK : ∀ w', IMap w' r (l ++ [(n, val)]) → w.grownBy w' (some r) → wpList P ops Q rest (a.put o.dst undef) w') : wpList P ops Q (o :: rest) a w := by
  refine wpList_plain hg fun K hK' => ?_
  obtain ⟨w', hrun, r1, r2⟩ := run_mapUpdate_new ht hk h n hn val
  unfold Oper.wp
  simp [execOp, hop, hm, hx, hv, hrun, Result.andThen]
  exact hK' _ _ (hK w' r1 r2)
end
end Go.Proofs.YtnedcclmfokdnaaGreat
