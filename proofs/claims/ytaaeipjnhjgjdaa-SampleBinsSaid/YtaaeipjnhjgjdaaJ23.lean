/- Texts joined: FMap. -/
import Derived.Test.YtaaeipjnhjgjdaaJ22
import Derived.Test.YtaaeipjnhjgjdaaJ14
/- A map from ints to ints that a call makes, as a function: 0 where nothing is told. No program is named here. -/
namespace Go.Proofs.Ytaaeipjnhjgjdaa
open Go Go.RowKit

theorem lookup_set {v : Value} {x : Int} : ∀ (l : List (Int × Value)) (d : Nat), (∃ p, l[d]? = some p ∧ p.1 = x) → (∀ c, c < d → ∀ q, l[c]? = some q → q.1 ≠ x) → ∀ y, (l.set d (x, v)).lookup y = if y = x then some v else l.lookup y
  | [], d, h, _, _ => by obtain ⟨p, h, _⟩ := h; simp at h
  | p :: l, 0, h, _, y => by
    obtain ⟨p', h, rfl⟩ := h
    simp only [List.getElem?_cons_zero, Option.some.injEq] at h
    subst h
    by_cases e : y = p.1
    · subst e; simp
    · have hb : (y == p.1) = false := by simpa using e
      simp [List.lookup, hb, e]
  | p :: l, d + 1, h, hb, y => by
    have ih := lookup_set (v := v) l d (by simpa using h) (fun c hc q hq => hb (c + 1) (by omega) q (by simpa using hq)) y
    have hp := hb 0 (by omega) p (by simp)
    rw [List.set_cons_succ]
    cases hy : y == p.1 with
    | true =>
      have e : y = p.1 := beq_iff_eq.1 hy
      rw [if_neg (by rw [e]; exact hp)]
      simp [List.lookup, hy]
    | false => simpa [List.lookup, hy] using ih
theorem findNow_at (x : Int) : ∀ (es : List MapEntry) (l : List (Int × Value)) (i j : Nat) (v : Value), es.map (fun e => (e.key, e.val)) = l.map (fun p => (Value.int .i64 p.1, p.2)) →
    Instr.findNow (.int .i64) (.int .i64 x) es i = some (some (j, v)) → ∃ d, j = i + d ∧ d < es.length ∧ (∃ p, l[d]? = some p ∧ p.1 = x) ∧ ∀ c, c < d → ∀ q, l[c]? = some q → q.1 ≠ x
  | [], _, _, _, _, _, h => by simp [Instr.findNow] at h
  | _ :: _, [], _, _, _, he, _ => by simp at he
  | e :: es, p :: l, i, j, v, he, h => by
    simp only [List.map_cons, List.cons.injEq, Prod.mk.injEq] at he
    obtain ⟨⟨hk, hv⟩, he⟩ := he
    rw [Instr.findNow, hk] at h
    simp only [Instr.sameNow, if_pos] at h
    cases hb : x == p.1 with
    | true =>
      rw [hb] at h
      simp only [Option.some.injEq, Prod.mk.injEq] at h
      exact ⟨0, by omega, by simp, ⟨p, rfl, by simpa using (beq_iff_eq.1 hb).symm⟩, fun c hc => by omega⟩
    | false =>
      rw [hb] at h
      obtain ⟨d, h1, h2, h3, h4⟩ := findNow_at x es l (i + 1) j v he h
      refine ⟨d + 1, by omega, by simp; omega, by simpa using h3, fun c hc q hq => ?_⟩
      cases c with
      | zero =>
        simp only [List.getElem?_cons_zero, Option.some.injEq] at hq
        subst hq
        exact fun e => by simp [e] at hb
      | succ c => exact h4 c (by omega) q (by simpa using hq)

/-- The block r is a map that tells f x of each x. -/
def FMap (w : World) (r : Nat) (f : Int → Int) : Prop := ∃ l, IMap w r l ∧ ∀ x, (l.lookup x).getD (.int .i64 0) = .int .i64 (f x)
section
variable {P : Program} {w : World} {r : Nat} {f : Int → Int} {t k e : TypeId}
theorem FMap.lt (h : FMap w r f) : r < w.heap.size := by obtain ⟨l, h, _⟩ := h; exact h.lt
theorem FMap.later {w' : World} (h : FMap w r f) (hb : Below w.heap.size w w') : FMap w' r f := by obtain ⟨l, h, h2⟩ := h; exact ⟨l, h.later hb, h2⟩
theorem FMap.same {w' : World} (h : FMap w r f) (hb : w'.heap[r]? = w.heap[r]?) : FMap w' r f := by
  obtain ⟨l, ⟨es, c, hh, he⟩, h2⟩ := h
  exact ⟨l, ⟨es, c, hb.trans hh, he⟩, h2⟩
theorem FMap.made (w : World) : FMap (w.alloc (.map #[] 0)) w.heap.size fun _ => 0 := ⟨[], IMap.made w, fun _ => rfl⟩
theorem FMap.noCells (h : FMap w r f) : ∀ cs ty fr, w.heap[r]? ≠ some (.cells cs ty fr) := by
  obtain ⟨l, ⟨es, c, hh, he⟩, h2⟩ := h
  intro cs ty fr h3
  rw [hh] at h3; cases h3
theorem run_lookup_f (ht : P.underlying t = some (.map k e)) (hk : P.underlying k = some (.int .i64)) (hz : (zeroValue e).run P w = .ok (.int .i64 0) w) (h : FMap w r f) (x : Int) :
    (Instr.lookup t (.map (some r)) (.int .i64 x) false).run P w = .ok (.int .i64 (f x)) w := by
  obtain ⟨l, h, h2⟩ := h
  rw [run_lookup_i ht hk _ hz h x false]
  simp [h2 x]
theorem run_mapUpdate_f (ht : P.underlying t = some (.map k e)) (hk : P.underlying k = some (.int .i64)) (h : FMap w r f) (x v : Int) :
    ∃ w', (Instr.mapUpdate t (.map (some r)) (.int .i64 x) (.int .i64 v)).run P w = .ok () w' ∧ FMap w' r (fun y => if y = x then v else f y) ∧ w.grownBy w' (some r) := by
  obtain ⟨l, hm, h2⟩ := h
  cases hlk : l.lookup x with
  | none =>
    obtain ⟨w', h3, h4, h5⟩ := run_mapUpdate_new ht hk hm x hlk (.int .i64 v)
    refine ⟨w', h3, ⟨_, h4, fun y => ?_⟩, h5⟩
    rw [List.lookup_append]
    show _ = Value.int .i64 (if y = x then v else f y)
    by_cases e : y = x
    · subst e; rw [hlk]; simp
    · rw [if_neg e, ← h2 y]
      have : List.lookup y [(x, Value.int .i64 v)] = none := by have hb : (y == x) = false := (by simpa using e); simp [List.lookup, hb]
      rw [this]; simp
  | some u =>
    have hlt := hm.lt
    obtain ⟨es, c, hh, he⟩ := hm
    have hf := findNow_int x es.toList l 0 he
    cases hn : Instr.findNow (.int .i64) (.int .i64 x) es.toList 0 with
    | none => rw [hn] at hf; cases hf
    | some q =>
      rw [hn, hlk] at hf
      cases q with
      | none => simp at hf
      | some q =>
        obtain ⟨j, u'⟩ := q
        obtain ⟨d, h3, h4, h5, h6⟩ := findNow_at x es.toList l 0 j u' he hn
        obtain rfl : j = d := by omega
        have hg : (getObj r).run P w = .ok (.map es c) w := by simp [getObj, Sem.run, hh]
        have hs : ∀ o, (setObj r o).run P w = .ok () { w with heap := w.heap.setIfInBounds r o } := fun o => by simp [setObj, Sem.run, hh]
        have hjl : j < es.size := by simpa using h4
        have hkey : (es[j]?.map (·.key)).getD (.int .i64 x) = .int .i64 x := by
          obtain ⟨p, hp, rfl⟩ := h5
          have := congrArg (fun l => l[j]?) he
          simp only [List.getElem?_map, Array.getElem?_toList, hp, Option.map_some] at this
          rw [Array.getElem?_eq_getElem hjl] at this ⊢
          simp only [Option.map_some, Option.some.injEq, Prod.mk.injEq] at this
          simp [this.1]
        have hst : (Instr.keyThatStays (.int .i64 x) (.int .i64 x)).run P w = .ok (.int .i64 x) w := by
          unfold Instr.keyThatStays
          rw [if_pos (by unfold Instr.sameBits; simp)]
          rfl
        refine ⟨_, by simp only [Instr.mapUpdate, Sem.run_bind, run_underlying ht, hg, Result.andThen, check_int hk, Instr.findKey, run_underlying hk, hn, Sem.run_pure, hkey, hst, hs]; rfl, ⟨l.set j (x, .int .i64 v), ?_, fun y => ?_⟩, ?_⟩
        · refine ⟨es.modify j fun e => { e with key := .int .i64 x, val := .int .i64 v }, c, by simp [hlt], ?_⟩
          rw [Array.toList_modify]
          apply List.ext_getElem?
          intro i
          have := congrArg (fun l => l[i]?) he
          simp only [List.getElem?_map] at this ⊢
          rw [List.getElem?_modify, List.getElem?_set]
          by_cases e : j = i
          · subst e
            have hl : j < l.length := by obtain ⟨p, hp, _⟩ := h5; exact (List.getElem?_eq_some_iff.1 hp).1
            rw [if_pos rfl, if_pos (by simpa using hl), List.getElem?_eq_getElem h4]
            simp
          · simp only [if_neg e]
            simpa using this
        · rw [lookup_set l j h5 h6 y]
          show _ = Value.int .i64 (if y = x then v else f y)
          by_cases e : y = x
          · subst e; simp
          · rw [if_neg e, if_neg e]; exact h2 y
        · refine ⟨rfl, rfl, rfl, by simp, fun i hi hne => ?_⟩
          have : r ≠ i := fun e => hne (by rw [e])
          simp [this]
end
end Go.Proofs.Ytaaeipjnhjgjdaa
