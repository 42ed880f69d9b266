/- Maps with spots for keys that a call makes, as lists of pairs in the order in which they came. -/
import Derived.Test.YtjpoacffnpgjdaaJ26
import Derived.Test.YtjpoacffnpgjdaaJ10
import Derived.Maps.RangeRun
namespace Go.Proofs.Ytjpoacffnpgjdaa
open Go Go.RowKit

def sBeq (x y : Spt) : Bool := x.foot == y.foot && x.hour == y.hour
theorem sBeq_iff {x y : Spt} : sBeq x y = true ↔ x = y := by
  cases x; cases y; simp [sBeq]
def lookS (x : Spt) (l : List (Spt × Int)) : Option Int := (l.find? fun p => sBeq x p.1).map (·.2)
/-- The block r is a map whose entries are l, in order. -/
def SMap (w : World) (r : Nat) (l : List (Spt × Int)) : Prop :=
  ∃ es clock, w.heap[r]? = some (.map es clock) ∧ es.toList.map (fun e => (e.key, e.val)) = l.map (fun p => (sV p.1, Value.int .i64 p.2)) ∧ (es.toList.map (·.born)).Nodup ∧ ∀ x ∈ es.toList, x.born < clock

section
variable (a b c d : Int) (w : World)
theorem Try.inSpt (n : Nat) : (Op.equalIn (n + 2) 42 (.agg #[.int .i64 a, .int .i64 b]) (.agg #[.int .i64 c, .int .i64 d])).run Try.prog w = .ok (a == c && b == d) w := by
  have u3 := Try.underlying3
  have hS : Try.prog.underlying 42 = some (.struct (Try.prog.fieldsOf 42)) := by kernel_rfl
  have hp : Try.prog.stoodInHeld 42 = false := by kernel_rfl
  rw [run_equalIn_agg w (n + 1) 42 _ _ hS hp]
  simp only [Program.fieldsOf, Try.underlying42]
  go_simp
  by_cases h1 : a = c <;> by_cases h2 : b = d <;> simp [h1, h2]
end
theorem eqSpt (x y : Spt) (w : World) : (Op.equal 42 (sV x) (sV y)).run Try.prog w = .ok (sBeq x y) w := Try.inSpt x.foot x.hour y.foot y.hour w 9998
theorem checkSpt (b : Bool) (x : Spt) (w : World) : (Instr.checkKey b 10000 42 (sV x)).run Try.prog w = .ok () w := by
  have u3 := Try.underlying3
  rw [show (10000 : Nat) = 9998 + 1 + 1 from rfl]
  unfold Instr.checkKey
  simp only [Sem.run_bind, run_underlying Try.underlying42, Result.andThen, sV]
  unfold Instr.checkKey
  go_simp

def findS (x : Spt) : List (Spt × Int) → Nat → Option (Nat × Value)
  | [], _ => none
  | p :: l, i => if sBeq x p.1 then some (i, .int .i64 p.2) else findS x l (i + 1)
theorem findS_look (x : Spt) : ∀ (l : List (Spt × Int)) (i : Nat), (findS x l i).map (·.2) = (lookS x l).map (Value.int .i64)
  | [], _ => rfl
  | p :: l, i => by
    unfold findS lookS
    rw [List.find?_cons]
    cases h : sBeq x p.1 with
    | true => rfl
    | false => exact findS_look x l (i + 1)
theorem findS_at (x : Spt) : ∀ (l : List (Spt × Int)) (i k : Nat) (v : Value), findS x l i = some (k, v) → ∃ j p, k = i + j ∧ l[j]? = some p ∧ x = p.1 ∧ v = .int .i64 p.2
  | [], _, _, _, h => by cases h
  | p :: l, i, k, v, h => by
    unfold findS at h
    cases hb : sBeq x p.1 with
    | true => rw [hb] at h; cases h; exact ⟨0, p, rfl, rfl, sBeq_iff.1 hb, rfl⟩
    | false =>
      rw [hb] at h
      obtain ⟨j, q, h1, h2, h3⟩ := findS_at x l (i + 1) k v h
      exact ⟨j + 1, q, by omega, h2, h3⟩
theorem asking_s (x : Spt) (w : World) : ∀ (es : List MapEntry) (l : List (Spt × Int)) (i : Nat), es.map (fun e => (e.key, e.val)) = l.map (fun p => (sV p.1, Value.int .i64 p.2)) →
    (Instr.findAsking 42 (sV x) es i).run Try.prog w = .ok (findS x l i) w
  | [], [], i, _ => rfl
  | [], _ :: _, i, h => by simp at h
  | _ :: _, [], i, h => by simp at h
  | e :: es, p :: l, i, h => by
    simp only [List.map_cons, List.cons.injEq, Prod.mk.injEq] at h
    obtain ⟨⟨hk, hv⟩, h⟩ := h
    have ih := asking_s x w es l (i + 1) h
    unfold Instr.findAsking findS
    simp only [Sem.run_bind, hk, eqSpt, Result.andThen]
    cases sBeq x p.1 with
    | true => simp [hv, Sem.run_pure]
    | false => simpa using ih
theorem findKey_s (x : Spt) (w : World) (es : List MapEntry) (l : List (Spt × Int)) (h : es.map (fun e => (e.key, e.val)) = l.map (fun p => (sV p.1, Value.int .i64 p.2))) :
    (Instr.findKey 42 (sV x) es).run Try.prog w = .ok (findS x l 0) w := by
  have ha := asking_s x w es l 0 h
  unfold Instr.findKey
  simp only [Sem.run_bind, run_underlying Try.underlying42, Result.andThen]
  cases es with
  | nil =>
    cases l with
    | nil => rfl
    | cons p l => simp at h
  | cons e es =>
    simp only [Instr.findNow, Instr.sameNow]
    exact ha

section
variable {w : World} {r : Nat} {l : List (Spt × Int)}
theorem SMap.lt (h : SMap w r l) : r < w.heap.size := by
  obtain ⟨es, c, hh, _⟩ := h
  rcases Nat.lt_or_ge r w.heap.size with hlt | hge
  · exact hlt
  · rw [Array.getElem?_eq_none hge] at hh; cases hh
theorem SMap.later {w' : World} (h : SMap w r l) (hb : Below w.heap.size w w') : SMap w' r l := by
  have hlt := h.lt
  obtain ⟨es, c, hh, he⟩ := h
  exact ⟨es, c, by rw [hb.block r hlt]; exact hh, he⟩
theorem SMap.made (w : World) : SMap (w.alloc (.map #[] 0)) w.heap.size [] := ⟨#[], 0, heap_alloc_new w _, rfl, by simp, by simp⟩
theorem lookup_s {t : TypeId} (ht : Try.prog.underlying t = some (.map 42 3)) (hz : ∀ w, (zeroValue 3).run Try.prog w = .ok (.int .i64 0) w) (h : SMap w r l) (x : Spt) :
    (Instr.lookup t (.map (some r)) (sV x) true).run Try.prog w = .ok (.tuple #[.int .i64 ((lookS x l).getD 0), .bool (lookS x l).isSome]) w := by
  obtain ⟨es, c, hh, he, _⟩ := h
  have hf := findKey_s x w es.toList l he
  have hl := findS_look x l 0
  have hg : (getObj r).run Try.prog w = .ok (.map es c) w := by simp [getObj, Sem.run, hh]
  cases hq : findS x l 0 with
  | none =>
    rw [hq] at hl hf
    cases hn : lookS x l with
    | none => simp [Instr.lookup, Sem.run_bind, run_underlying ht, hg, Result.andThen, checkSpt, hf, hz]
    | some v => rw [hn] at hl; cases hl
  | some q =>
    rw [hq] at hl hf
    cases hn : lookS x l with
    | none => rw [hn] at hl; cases hl
    | some v =>
      rw [hn] at hl
      obtain ⟨i, u⟩ := q
      simp only [Option.map_some, Option.some.injEq] at hl
      subst hl
      simp [Instr.lookup, Sem.run_bind, run_underlying ht, hg, Result.andThen, checkSpt, hf, Sem.run_pure]
theorem update_new {t : TypeId} (ht : Try.prog.underlying t = some (.map 42 3)) (h : SMap w r l) (x : Spt) (hx : lookS x l = none) (v : Int) :
    ∃ w', (Instr.mapUpdate t (.map (some r)) (sV x) (.int .i64 v)).run Try.prog w = .ok () w' ∧ SMap w' r (l ++ [(x, v)]) ∧ w.grownBy w' (some r) := by
  have hlt := h.lt
  obtain ⟨es, c, hh, he, hn1, hn2⟩ := h
  have hf := findKey_s x w es.toList l he
  have hl := findS_look x l 0
  rw [hx] at hl
  cases hq : findS x l 0 with
  | some q => rw [hq] at hl; cases hl
  | none =>
    rw [hq] at hf
    have hg : (getObj r).run Try.prog w = .ok (.map es c) w := by simp [getObj, Sem.run, hh]
    have hs : ∀ o, (setObj r o).run Try.prog w = .ok () { w with heap := w.heap.setIfInBounds r o } := fun o => by simp [setObj, Sem.run, hh]
    refine ⟨_, by simp only [Instr.mapUpdate, Sem.run_bind, run_underlying ht, hg, Result.andThen, checkSpt, hf, hs]; rfl, ?_, ?_⟩
    · refine ⟨es.push { key := sV x, val := .int .i64 v, born := c }, c + 1, by simp [hlt], by simp [he], ?_, ?_⟩
      · rw [Array.toList_push, List.map_append, List.nodup_append]
        refine ⟨hn1, by simp, ?_⟩
        intro b hb b' hb' e
        simp at hb'
        subst hb' e
        obtain ⟨y, hy, hyb⟩ := List.mem_map.1 hb
        have := hn2 y hy
        omega
      · intro y hy
        rw [Array.toList_push, List.mem_append] at hy
        rcases hy with hy | hy
        · have := hn2 y hy; omega
        · simp at hy; subst hy; simp
    · refine ⟨rfl, rfl, rfl, by simp, fun i hi hne => ?_⟩
      have : r ≠ i := fun e => hne (by rw [e])
      simp [this]
theorem update_same {t : TypeId} (ht : Try.prog.underlying t = some (.map 42 3)) (h : SMap w r l) (x : Spt) (v : Int) (hx : lookS x l = some v) :
    ∃ w', (Instr.mapUpdate t (.map (some r)) (sV x) (.int .i64 v)).run Try.prog w = .ok () w' ∧ SMap w' r l ∧ w.grownBy w' (some r) := by
  have hlt := h.lt
  obtain ⟨es, c, hh, he, hn1, hn2⟩ := h
  have hf := findKey_s x w es.toList l he
  have hl := findS_look x l 0
  rw [hx] at hl
  cases hq : findS x l 0 with
  | none => rw [hq] at hl; cases hl
  | some q =>
    rw [hq] at hf hl
    obtain ⟨i, u⟩ := q
    obtain ⟨j, p, hij, hp, hxp, hu⟩ := findS_at x l 0 i u hq
    simp only [Option.map_some, Option.some.injEq] at hl
    obtain rfl : i = j := by omega
    have hei : (es.toList.map fun e => (e.key, e.val))[i]? = some (sV x, .int .i64 v) := by rw [he, List.getElem?_map, hp, ← hl, hu, hxp]; rfl
    rw [List.getElem?_map] at hei
    cases hy : es.toList[i]? with
    | none => rw [hy] at hei; cases hei
    | some y =>
      rw [hy] at hei
      simp only [Option.map_some, Option.some.injEq, Prod.mk.injEq] at hei
      have hy2 : es[i]? = some y := by rw [← Array.getElem?_toList]; exact hy
      have hsb : Instr.sameBits 10000 (sV x) (sV x) = true := by
        rw [show (10000 : Nat) = 9999 + 1 from rfl]
        simp [Instr.sameBits]
      have hst : (Instr.keyThatStays y.key (sV x)).run Try.prog w = .ok (sV x) w := by
        unfold Instr.keyThatStays
        rw [hei.1, hsb]; rfl
      have hmod : es.modify i (fun e => { e with key := sV x, val := .int .i64 v }) = es := by
        apply Array.ext_getElem?
        intro m
        rw [Array.getElem?_modify]
        by_cases hm : i = m
        · subst hm
          rw [if_pos rfl, hy2, ← hei.1, ← hei.2]; rfl
        · rw [if_neg hm]
      have hg : (getObj r).run Try.prog w = .ok (.map es c) w := by simp [getObj, Sem.run, hh]
      have hs : ∀ o, (setObj r o).run Try.prog w = .ok () { w with heap := w.heap.setIfInBounds r o } := fun o => by simp [setObj, Sem.run, hh]
      refine ⟨{ w with heap := w.heap.setIfInBounds r (.map es c) }, ?_, ⟨es, c, by simp [hlt], he, hn1, hn2⟩, ?_⟩
      · simp only [Instr.mapUpdate, Sem.run_bind, run_underlying ht, hg, Result.andThen, checkSpt, hf, hy2, Option.map_some, Option.getD_some, hst, hmod, hs]
      · refine ⟨rfl, rfl, rfl, by simp, fun k hk hne => ?_⟩
        have : r ≠ k := fun e => hne (by rw [e])
        simp [this]
end
end Go.Proofs.Ytjpoacffnpgjdaa
