/- Texts joined: SMap SNext. -/
import Derived.Test.YtjpoacffnpgjdaaGreatJ20
import Derived.Test.YtjpoacffnpgjdaaGreatJ10
import Derived.Maps.RangeRun
/- Maps with spots for keys that a call makes, as lists of pairs in the order in which they came. -/
namespace Go.Proofs.YtjpoacffnpgjdaaGreat
open Go Go.RowKit

def sBeq (x y : Spt) : Bool := x.foot == y.foot && x.hour == y.hour
theorem sBeq_iff {x y : Spt} : sBeq x y = true ↔ x = y := by
  cases x; cases y; simp [sBeq]
def lookS (x : Spt) (l : List (Spt × Int)) : Option Int := (l.find? fun p => sBeq x p.1).map (·.2)
/-- The block r is a map whose entries are l, in order. -/
def SMap (w : World) (r : Nat) (l : List (Spt × Int)) : Prop :=
  ∃ es clock, w.heap[r]? = some (.map es clock) ∧ es.toList.map (fun e => (e.key, e.val)) = l.map (fun p => (sV p.1, Value.int .i64 p.2)) ∧ (es.toList.map (·.born)).Nodup ∧ ∀ x ∈ es.toList, x.born < clock

section
variable (a b c d : Int) (w : World)
theorem Tryz.inSpt (n : Nat) : (Op.equalIn (n + 2) 26 (.agg #[.int .i64 a, .int .i64 b]) (.agg #[.int .i64 c, .int .i64 d])).run Tryz.prog w = .ok (a == c && b == d) w := by
  have u3 := Tryz.underlying3
  have hS : Tryz.prog.underlying 26 = some (.struct (Tryz.prog.fieldsOf 26)) := by kernel_rfl
  have hp : Tryz.prog.stoodInHeld 26 = false := by kernel_rfl
  rw [run_equalIn_agg w (n + 1) 26 _ _ hS hp]
  simp only [Program.fieldsOf, Tryz.underlying26]
  go_simp
  by_cases h1 : a = c <;> by_cases h2 : b = d <;> simp [h1, h2]
end
theorem eqSpt (x y : Spt) (w : World) : (Op.equal 26 (sV x) (sV y)).run Tryz.prog w = .ok (sBeq x y) w := Tryz.inSpt x.foot x.hour y.foot y.hour w 9998
theorem checkSpt (b : Bool) (x : Spt) (w : World) : (Instr.checkKey b 10000 26 (sV x)).run Tryz.prog w = .ok () w := by
  have u3 := Tryz.underlying3
  rw [show (10000 : Nat) = 9998 + 1 + 1 from rfl]
  unfold Instr.checkKey
  simp only [Sem.run_bind, run_underlying Tryz.underlying26, Result.andThen, sV]
  unfold Instr.checkKey
  go_simp

def findS (x : Spt) : List (Spt × Int) → Nat → Option (Nat × Value)
  | [], _ => none
  | p :: l, i => if sBeq x p.1 then some (i, .int .i64 p.2) else findS x l (i + 1)
theorem findS_look (x : Spt) : ∀ (l : List (Spt × Int)) (i : Nat), (findS x l i).map (·.2) = (lookS x l).map (Value.int .i64)
  | [], _ => rfl
  | p :: l, i => by
    unfold findS lookS
    rw [List.find?_cons]
    cases h : sBeq x p.1 with
    | true => rfl
    | false => exact findS_look x l (i + 1)
theorem findS_at (x : Spt) : ∀ (l : List (Spt × Int)) (i k : Nat) (v : Value), findS x l i = some (k, v) → ∃ j p, k = i + j ∧ l[j]? = some p ∧ x = p.1 ∧ v = .int .i64 p.2
  | [], _, _, _, h => by cases h
  | p :: l, i, k, v, h => by
    unfold findS at h
    cases hb : sBeq x p.1 with
    | true => rw [hb] at h; cases h; exact ⟨0, p, rfl, rfl, sBeq_iff.1 hb, rfl⟩
    | false =>
      rw [hb] at h
      obtain ⟨j, q, h1, h2, h3⟩ := findS_at x l (i + 1) k v h
      exact ⟨j + 1, q, by omega, h2, h3⟩
theorem asking_s (x : Spt) (w : World) : ∀ (es : List MapEntry) (l : List (Spt × Int)) (i : Nat), es.map (fun e => (e.key, e.val)) = l.map (fun p => (sV p.1, Value.int .i64 p.2)) →
    (Instr.findAsking 26 (sV x) es i).run Tryz.prog w = .ok (findS x l i) w
  | [], [], i, _ => rfl
  | [], _ :: _, i, h => by simp at h
  | _ :: _, [], i, h => by simp at h
  | e :: es, p :: l, i, h => by
    simp only [List.map_cons, List.cons.injEq, Prod.mk.injEq] at h
    obtain ⟨⟨hk, hv⟩, h⟩ := h
    have ih := asking_s x w es l (i + 1) h
    unfold Instr.findAsking findS
    simp only [Sem.run_bind, hk, eqSpt, Result.andThen]
    cases sBeq x p.1 with
    | true => simp [hv, Sem.run_pure]
    | false => simpa using ih
theorem findKey_s (x : Spt) (w : World) (es : List MapEntry) (l : List (Spt × Int)) (h : es.map (fun e => (e.key, e.val)) = l.map (fun p => (sV p.1, Value.int .i64 p.2))) :
    (Instr.findKey 26 (sV x) es).run Tryz.prog w = .ok (findS x l 0) w := by
  have ha := asking_s x w es l 0 h
  unfold Instr.findKey
  simp only [Sem.run_bind, run_underlying Tryz.underlying26, Result.andThen]
  cases es with
  | nil =>
    cases l with
    | nil => rfl
    | cons p l => simp at h
  | cons e es =>
    simp only [Instr.findNow, Instr.sameNow]
    exact ha

section
variable {w : World} {r : Nat} {l : List (Spt × Int)}
theorem SMap.lt (h : SMap w r l) : r < w.heap.size := by
  obtain ⟨es, c, hh, _⟩ := h
  rcases Nat.lt_or_ge r w.heap.size with hlt | hge
  · exact hlt
  · rw [Array.getElem?_eq_none hge] at hh; cases hh
theorem SMap.later {w' : World} (h : SMap w r l) (hb : Below w.heap.size w w') : SMap w' r l := by
  have hlt := h.lt
  obtain ⟨es, c, hh, he⟩ := h
  exact ⟨es, c, by rw [hb.block r hlt]; exact hh, he⟩
theorem SMap.made (w : World) : SMap (w.alloc (.map #[] 0)) w.heap.size [] := ⟨#[], 0, heap_alloc_new w _, rfl, by simp, by simp⟩
theorem lookup_s {t : TypeId} (ht : Tryz.prog.underlying t = some (.map 26 3)) (hz : ∀ w, (zeroValue 3).run Tryz.prog w = .ok (.int .i64 0) w) (h : SMap w r l) (x : Spt) :
    (Instr.lookup t (.map (some r)) (sV x) true).run Tryz.prog w = .ok (.tuple #[.int .i64 ((lookS x l).getD 0), .bool (lookS x l).isSome]) w := by
  obtain ⟨es, c, hh, he, _⟩ := h
  have hf := findKey_s x w es.toList l he
  have hl := findS_look x l 0
  have hg : (getObj r).run Tryz.prog w = .ok (.map es c) w := by simp [getObj, Sem.run, hh]
  cases hq : findS x l 0 with
  | none =>
    rw [hq] at hl hf
    cases hn : lookS x l with
    | none => simp [Instr.lookup, Sem.run_bind, run_underlying ht, hg, Result.andThen, checkSpt, hf, hz]
    | some v => rw [hn] at hl; cases hl
  | some q =>
    rw [hq] at hl hf
    cases hn : lookS x l with
    | none => rw [hn] at hl; cases hl
    | some v =>
      rw [hn] at hl
      obtain ⟨i, u⟩ := q
      simp only [Option.map_some, Option.some.injEq] at hl
      subst hl
      simp [Instr.lookup, Sem.run_bind, run_underlying ht, hg, Result.andThen, checkSpt, hf, Sem.run_pure]
theorem update_new {t : TypeId} (ht : Tryz.prog.underlying t = some (.map 26 3)) (h : SMap w r l) (x : Spt) (hx : lookS x l = none) (v : Int) :
    ∃ w', (Instr.mapUpdate t (.map (some r)) (sV x) (.int .i64 v)).run Tryz.prog w = .ok () w' ∧ SMap w' r (l ++ [(x, v)]) ∧ w.grownBy w' (some r) := by
  have hlt := h.lt
  obtain ⟨es, c, hh, he, hn1, hn2⟩ := h
  have hf := findKey_s x w es.toList l he
  have hl := findS_look x l 0
  rw [hx] at hl
  cases hq : findS x l 0 with
  | some q => rw [hq] at hl; cases hl
  | none =>
    rw [hq] at hf
    have hg : (getObj r).run Tryz.prog w = .ok (.map es c) w := by simp [getObj, Sem.run, hh]
    have hs : ∀ o, (setObj r o).run Tryz.prog w = .ok () { w with heap := w.heap.setIfInBounds r o } := fun o => by simp [setObj, Sem.run, hh]
    refine ⟨_, by simp only [Instr.mapUpdate, Sem.run_bind, run_underlying ht, hg, Result.andThen, checkSpt, hf, hs]; rfl, ?_, ?_⟩
    · refine ⟨es.push { key := sV x, val := .int .i64 v, born := c }, c + 1, by simp [hlt], by simp [he], ?_, ?_⟩
      · rw [Array.toList_push, List.map_append, List.nodup_append]
        refine ⟨hn1, by simp, ?_⟩
        intro b hb b' hb' e
        simp at hb'
        subst hb' e
        obtain ⟨y, hy, hyb⟩ := List.mem_map.1 hb
        have := hn2 y hy
        omega
      · intro y hy
        rw [Array.toList_push, List.mem_append] at hy
        rcases hy with hy | hy
        · have := hn2 y hy; omega
        · simp at hy; subst hy; simp
    · refine ⟨rfl, rfl, rfl, by simp, fun i hi hne => ?_⟩
      have : r ≠ i := fun e => hne (by rw [e])
      simp [this]
theorem update_same {t : TypeId} (ht : Tryz.prog.underlying t = some (.map 26 3)) (h : SMap w r l) (x : Spt) (v : Int) (hx : lookS x l = some v) :
    ∃ w', (Instr.mapUpdate t (.map (some r)) (sV x) (.int .i64 v)).run Tryz.prog w = .ok () w' ∧ SMap w' r l ∧ w.grownBy w' (some r) := by
  have hlt := h.lt
  obtain ⟨es, c, hh, he, hn1, hn2⟩ := h
  have hf := findKey_s x w es.toList l he
  have hl := findS_look x l 0
  rw [hx] at hl
  cases hq : findS x l 0 with
  | none => rw [hq] at hl; cases hl
  | some q =>
    rw [hq] at hf hl
    obtain ⟨i, u⟩ := q
    obtain ⟨j, p, hij, hp, hxp, hu⟩ := findS_at x l 0 i u hq
    simp only [Option.map_some, Option.some.injEq] at hl
    obtain rfl : i = j := by omega
    have hei : (es.toList.map fun e => (e.key, e.val))[i]? = some (sV x, .int .i64 v) := by rw [he, List.getElem?_map, hp, ← hl, hu, hxp]; rfl
    rw [List.getElem?_map] at hei
    cases hy : es.toList[i]? with
    | none => rw [hy] at hei; cases hei
    | some y =>
      rw [hy] at hei
      simp only [Option.map_some, Option.some.injEq, Prod.mk.injEq] at hei
      have hy2 : es[i]? = some y := by rw [← Array.getElem?_toList]; exact hy
      have hsb : Instr.sameBits 10000 (sV x) (sV x) = true := by
        rw [show (10000 : Nat) = 9999 + 1 from rfl]
        simp [Instr.sameBits]
      have hst : (Instr.keyThatStays y.key (sV x)).run Tryz.prog w = .ok (sV x) w := by
        unfold Instr.keyThatStays
        rw [hei.1, hsb]; rfl
      have hmod : es.modify i (fun e => { e with key := sV x, val := .int .i64 v }) = es := by
        apply Array.ext_getElem?
        intro m
        rw [Array.getElem?_modify]
        by_cases hm : i = m
        · subst hm
          rw [if_pos rfl, hy2, ← hei.1, ← hei.2]; rfl
        · rw [if_neg hm]
      have hg : (getObj r).run Tryz.prog w = .ok (.map es c) w := by simp [getObj, Sem.run, hh]
      have hs : ∀ o, (setObj r o).run Tryz.prog w = .ok () { w with heap := w.heap.setIfInBounds r o } := fun o => by simp [setObj, Sem.run, hh]
      refine ⟨{ w with heap := w.heap.setIfInBounds r (.map es c) }, ?_, ⟨es, c, by simp [hlt], he, hn1, hn2⟩, ?_⟩
      · simp only [Instr.mapUpdate, Sem.run_bind, run_underlying ht, hg, Result.andThen, checkSpt, hf, hy2, Option.map_some, Option.getD_some, hst, hmod, hs]
      · refine ⟨rfl, rfl, rfl, by simp, fun k hk hne => ?_⟩
        have : r ≠ k := fun e => hne (by rw [e])
        simp [this]
end
end Go.Proofs.YtjpoacffnpgjdaaGreat
/- Ranging over a map with spots for keys: one step, whichever entry comes. -/
namespace Go.Proofs.YtjpoacffnpgjdaaGreat
open Go Go.RowKit

/-- Only the block k has turned. -/
structure Turned (k : Nat) (w w' : World) : Prop where
  os : w'.os = w.os
  tape : w'.tape = w.tape
  output : w'.output = w.output
  size : w'.heap.size = w.heap.size
  block : ∀ i, i ≠ k → w'.heap[i]? = w.heap[i]?
theorem Turned.below {k B : Nat} {w w' : World} (h : Turned k w w') (hk : B ≤ k) : Below B w w' := ⟨h.os, h.tape, h.output, Nat.le_of_eq h.size.symm, fun i hi => h.block i (by omega)⟩
theorem sV_inj {x y : Spt} (h : sV x = sV y) : x = y := by
  cases x; cases y; simp [sV] at h; simp [h]
def SeenG (es : Array MapEntry) (seen : Array Nat) (G : Spt × Int → Prop) : Prop :=
  ∀ x ∈ es.toList, seen.contains x.born = true → ∀ p : Spt × Int, x.key = sV p.1 → x.val = .int .i64 p.2 → G p
theorem SeenG.start {es : Array MapEntry} {G : Spt × Int → Prop} : SeenG es #[] G := fun x _ h => by simp at h
theorem SeenG.push {es : Array MapEntry} {seen : Array Nat} {G : Spt × Int → Prop} (h : SeenG es seen G) (hn : (es.toList.map (·.born)).Nodup) {e : MapEntry} (he : e ∈ es.toList) {p : Spt × Int}
    (h1 : e.key = sV p.1) (h2 : e.val = .int .i64 p.2) (hg : G p) : SeenG es (seen.push e.born) G := by
  intro x hx hs q hq1 hq2
  rw [contains_push] at hs
  rcases Bool.or_eq_true _ _ ▸ hs with hs | hs
  · exact h x hx hs q hq1 hq2
  · obtain rfl : x = e := born_inj hn hx he (beq_iff_eq.1 hs)
    have e1 : q.1 = p.1 := sV_inj (hq1.symm.trans h1)
    have e2 : q.2 = p.2 := by have := hq2.symm.trans h2; simpa using this
    have e3 : q = p := Prod.ext e1 e2
    rw [e3]; exact hg
theorem SeenG.all {es : Array MapEntry} {seen : Array Nat} {G : Spt × Int → Prop} (h : SeenG es seen G) (hs : ∀ x ∈ es.toList, seen.contains x.born = true) {l : List (Spt × Int)}
    (he : es.toList.map (fun e => (e.key, e.val)) = l.map (fun p => (sV p.1, Value.int .i64 p.2))) : ∀ p ∈ l, G p := by
  intro p hp
  have : (sV p.1, Value.int .i64 p.2) ∈ es.toList.map (fun e => (e.key, e.val)) := by rw [he]; exact List.mem_map.2 ⟨p, hp, rfl⟩
  obtain ⟨x, hx, hxe⟩ := List.mem_map.1 this
  simp only [Prod.mk.injEq] at hxe
  exact h x hx (hs x hx) p hxe.1 hxe.2
theorem next_s {w : World} {ri r : Nat} {l : List (Spt × Int)} {es : Array MapEntry} {clock c0 : Nat} {seen : Array Nat} (hr : w.heap[ri]? = some (.mapIter (some r) clock seen c0)) (hb : w.heap[r]? = some (.map es clock))
    (he : es.toList.map (fun e => (e.key, e.val)) = l.map (fun p => (sV p.1, Value.int .i64 p.2))) (hlt : ∀ x ∈ es.toList, x.born < clock) (hsc : clock ≤ c0) :
    ((∀ x ∈ es.toList, seen.contains x.born = true) ∧ ∀ ty, (Instr.next (.pointer (some ⟨ri, 0, none⟩)) false ty).run Tryz.prog w = .ok (.tuple #[.bool false]) w) ∨
    ∃ e p, e ∈ es.toList ∧ p ∈ l ∧ e.key = sV p.1 ∧ e.val = .int .i64 p.2 ∧ (leftOf es (seen.push e.born)).size < (leftOf es seen).size ∧ ∃ W', (∀ ty, (Instr.next (.pointer (some ⟨ri, 0, none⟩)) false ty).run Tryz.prog w = .ok (.tuple #[.bool true, sV p.1, .int .i64 p.2]) W') ∧
      W'.heap[ri]? = some (.mapIter (some r) clock (seen.push e.born) clock) ∧ Turned ri w W' := by
  have hri : ri < w.heap.size := by
    rcases Nat.lt_or_ge ri w.heap.size with h | h
    · exact h
    · rw [Array.getElem?_eq_none h] at hr; cases hr
  rcases run_next_at (P := Tryz.prog) w 0 ri r clock c0 seen es clock hr hb hlt hsc with ⟨h0, hrun⟩ | ⟨e, hel, w1, hw1, hrun⟩
  · exact .inl ⟨all_seen es seen h0, fun _ => hrun⟩
  · right
    have hee := (mem_left hel).1
    have hm : (e.key, e.val) ∈ l.map (fun p => (sV p.1, Value.int .i64 p.2)) := by rw [← he]; exact List.mem_map.2 ⟨e, hee, rfl⟩
    obtain ⟨p, hp, hpe⟩ := List.mem_map.1 hm
    simp only [Prod.mk.injEq] at hpe
    refine ⟨e, p, hee, hp, hpe.1.symm, hpe.2.symm, left_shrinks es seen e hel, _, fun _ => by rw [hpe.1, hpe.2]; exact hrun, ?_, ?_⟩
    · have e1 : w1.heap = w.heap := by rcases hw1 with rfl | rfl <;> rfl
      simp [Go.ChangeMaps.setBlock, e1, hri]
    · have e1 : w1.heap = w.heap := by rcases hw1 with rfl | rfl <;> rfl
      have e2 : w1.os = w.os := by rcases hw1 with rfl | rfl <;> rfl
      have e3 : w1.tape = w.tape := by rcases hw1 with rfl | rfl <;> rfl
      have e4 : w1.output = w.output := by rcases hw1 with rfl | rfl <;> rfl
      exact ⟨e2, e3, e4, by simp [Go.ChangeMaps.setBlock, e1], fun i hi => by simp [Go.ChangeMaps.setBlock, e1, Ne.symm hi]⟩
/-- The entry that the step handed out, read behind it. -/
theorem entry_s {w : World} {ri r clock : Nat} {seen : Array Nat} {es : Array MapEntry} {e : MapEntry} {p : Spt × Int} (hr : w.heap[ri]? = some (.mapIter (some r) clock (seen.push e.born) clock)) (hb : w.heap[r]? = some (.map es clock))
    (he : e ∈ es.toList) (hn : (es.toList.map (·.born)).Nodup) (h1 : e.key = sV p.1) (h2 : e.val = .int .i64 p.2) :
    (Instr.entry (.pointer (some ⟨ri, 0, none⟩))).run Tryz.prog w = .ok (.tuple #[sV p.1, .int .i64 p.2]) w := by
  rw [run_entry_at (P := Tryz.prog) w ri r clock seen es clock e hr hb he hn, h1, h2]
theorem fits_set {f : Fi} {ls : List Lk} {z T : List (Spt × Int)} (h : ∀ a, a ∈ T ↔ a ∈ z) : fitsB f ls T = fitsB f ls z := by
  rw [Bool.eq_iff_iff, fits_iff, fits_iff]
  constructor
  · intro H a ha
    obtain ⟨h1, h2⟩ := H a ((h a).2 ha)
    exact ⟨h1, fun b hb => h2 b ((h b).2 hb)⟩
  · intro H a ha
    obtain ⟨h1, h2⟩ := H a ((h a).1 ha)
    exact ⟨h1, fun b hb => h2 b ((h b).1 hb)⟩
/-- One spot told two ways fits nothing. -/
theorem fits_two {f : Fi} {ls : List Lk} {z : List (Spt × Int)} {p : Spt} {a b : Int} (ha : (p, a) ∈ z) (hb : (p, b) ∈ z) (hab : a ≠ b) : fitsB f ls z = false := by
  rw [Bool.eq_false_iff]
  intro H
  have h1 := ((fits_iff.1 H) (p, a) ha).2 (p, b) hb
  have h2 := ((fits_iff.1 H) (p, b) hb).2 (p, a) ha
  simp only [far_self] at h1 h2
  omega
end Go.Proofs.YtjpoacffnpgjdaaGreat
