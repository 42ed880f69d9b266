/- Ranging over a map with spots for keys: one step, whichever entry comes. -/
import Derived.Test.YtjpoacffnpgjdaaZSMap
import Derived.Maps.RangeRun
namespace Go.Proofs.Ytjpoacffnpgjdaa
open Go Go.RowKit

/-- Only the block k has turned. -/
structure Turned (k : Nat) (w w' : World) : Prop where
  os : w'.os = w.os
  tape : w'.tape = w.tape
  output : w'.output = w.output
  size : w'.heap.size = w.heap.size
  block : ∀ i, i ≠ k → w'.heap[i]? = w.heap[i]?
theorem Turned.below {k B : Nat} {w w' : World} (h : Turned k w w') (hk : B ≤ k) : Below B w w' := ⟨h.os, h.tape, h.output, Nat.le_of_eq h.size.symm, fun i hi => h.block i (by omega)⟩
theorem sV_inj {x y : Spt} (h : sV x = sV y) : x = y := by
  cases x; cases y; simp [sV] at h; simp [h]
def SeenG (es : Array MapEntry) (seen : Array Nat) (G : Spt × Int → Prop) : Prop :=
  ∀ x ∈ es.toList, seen.contains x.born = true → ∀ p : Spt × Int, x.key = sV p.1 → x.val = .int .i64 p.2 → G p
theorem SeenG.start {es : Array MapEntry} {G : Spt × Int → Prop} : SeenG es #[] G := fun x _ h => by simp at h
theorem SeenG.push {es : Array MapEntry} {seen : Array Nat} {G : Spt × Int → Prop} (h : SeenG es seen G) (hn : (es.toList.map (·.born)).Nodup) {e : MapEntry} (he : e ∈ es.toList) {p : Spt × Int}
    (h1 : e.key = sV p.1) (h2 : e.val = .int .i64 p.2) (hg : G p) : SeenG es (seen.push e.born) G := by
  intro x hx hs q hq1 hq2
  rw [contains_push] at hs
  rcases Bool.or_eq_true _ _ ▸ hs with hs | hs
  · exact h x hx hs q hq1 hq2
  · obtain rfl : x = e := born_inj hn hx he (beq_iff_eq.1 hs)
    have e1 : q.1 = p.1 := sV_inj (hq1.symm.trans h1)
    have e2 : q.2 = p.2 := by have := hq2.symm.trans h2; simpa using this
    have e3 : q = p := Prod.ext e1 e2
    rw [e3]; exact hg
theorem SeenG.all {es : Array MapEntry} {seen : Array Nat} {G : Spt × Int → Prop} (h : SeenG es seen G) (hs : ∀ x ∈ es.toList, seen.contains x.born = true) {l : List (Spt × Int)}
    (he : es.toList.map (fun e => (e.key, e.val)) = l.map (fun p => (sV p.1, Value.int .i64 p.2))) : ∀ p ∈ l, G p := by
  intro p hp
  have : (sV p.1, Value.int .i64 p.2) ∈ es.toList.map (fun e => (e.key, e.val)) := by rw [he]; exact List.mem_map.2 ⟨p, hp, rfl⟩
  obtain ⟨x, hx, hxe⟩ := List.mem_map.1 this
  simp only [Prod.mk.injEq] at hxe
  exact h x hx (hs x hx) p hxe.1 hxe.2
theorem next_s {w : World} {ri r : Nat} {l : List (Spt × Int)} {es : Array MapEntry} {clock c0 : Nat} {seen : Array Nat} (hr : w.heap[ri]? = some (.mapIter (some r) clock seen c0)) (hb : w.heap[r]? = some (.map es clock))
    (he : es.toList.map (fun e => (e.key, e.val)) = l.map (fun p => (sV p.1, Value.int .i64 p.2))) (hlt : ∀ x ∈ es.toList, x.born < clock) (hsc : clock ≤ c0) :
    ((∀ x ∈ es.toList, seen.contains x.born = true) ∧ ∀ ty, (Instr.next (.pointer (some ⟨ri, 0, none⟩)) false ty).run Try.prog w = .ok (.tuple #[.bool false]) w) ∨
    ∃ e p, e ∈ es.toList ∧ p ∈ l ∧ e.key = sV p.1 ∧ e.val = .int .i64 p.2 ∧ (leftOf es (seen.push e.born)).size < (leftOf es seen).size ∧ ∃ W', (∀ ty, (Instr.next (.pointer (some ⟨ri, 0, none⟩)) false ty).run Try.prog w = .ok (.tuple #[.bool true, sV p.1, .int .i64 p.2]) W') ∧
      W'.heap[ri]? = some (.mapIter (some r) clock (seen.push e.born) clock) ∧ Turned ri w W' := by
  have hri : ri < w.heap.size := by
    rcases Nat.lt_or_ge ri w.heap.size with h | h
    · exact h
    · rw [Array.getElem?_eq_none h] at hr; cases hr
  rcases run_next_at (P := Try.prog) w 0 ri r clock c0 seen es clock hr hb hlt hsc with ⟨h0, hrun⟩ | ⟨e, hel, w1, hw1, hrun⟩
  · exact .inl ⟨all_seen es seen h0, fun _ => hrun⟩
  · right
    have hee := (mem_left hel).1
    have hm : (e.key, e.val) ∈ l.map (fun p => (sV p.1, Value.int .i64 p.2)) := by rw [← he]; exact List.mem_map.2 ⟨e, hee, rfl⟩
    obtain ⟨p, hp, hpe⟩ := List.mem_map.1 hm
    simp only [Prod.mk.injEq] at hpe
    refine ⟨e, p, hee, hp, hpe.1.symm, hpe.2.symm, left_shrinks es seen e hel, _, fun _ => by rw [hpe.1, hpe.2]; exact hrun, ?_, ?_⟩
    · have e1 : w1.heap = w.heap := by rcases hw1 with rfl | rfl <;> rfl
      simp [Go.ChangeMaps.setBlock, e1, hri]
    · have e1 : w1.heap = w.heap := by rcases hw1 with rfl | rfl <;> rfl
      have e2 : w1.os = w.os := by rcases hw1 with rfl | rfl <;> rfl
      have e3 : w1.tape = w.tape := by rcases hw1 with rfl | rfl <;> rfl
      have e4 : w1.output = w.output := by rcases hw1 with rfl | rfl <;> rfl
      exact ⟨e2, e3, e4, by simp [Go.ChangeMaps.setBlock, e1], fun i hi => by simp [Go.ChangeMaps.setBlock, e1, Ne.symm hi]⟩
/-- The entry that the step handed out, read behind it. -/
theorem entry_s {w : World} {ri r clock : Nat} {seen : Array Nat} {es : Array MapEntry} {e : MapEntry} {p : Spt × Int} (hr : w.heap[ri]? = some (.mapIter (some r) clock (seen.push e.born) clock)) (hb : w.heap[r]? = some (.map es clock))
    (he : e ∈ es.toList) (hn : (es.toList.map (·.born)).Nodup) (h1 : e.key = sV p.1) (h2 : e.val = .int .i64 p.2) :
    (Instr.entry (.pointer (some ⟨ri, 0, none⟩))).run Try.prog w = .ok (.tuple #[sV p.1, .int .i64 p.2]) w := by
  rw [run_entry_at (P := Try.prog) w ri r clock seen es clock e hr hb he hn, h1, h2]
theorem fits_set {f : Fi} {ls : List Lk} {z T : List (Spt × Int)} (h : ∀ a, a ∈ T ↔ a ∈ z) : fitsB f ls T = fitsB f ls z := by
  rw [Bool.eq_iff_iff, fits_iff, fits_iff]
  constructor
  · intro H a ha
    obtain ⟨h1, h2⟩ := H a ((h a).2 ha)
    exact ⟨h1, fun b hb => h2 b ((h b).2 hb)⟩
  · intro H a ha
    obtain ⟨h1, h2⟩ := H a ((h a).1 ha)
    exact ⟨h1, fun b hb => h2 b ((h b).1 hb)⟩
/-- One spot told two ways fits nothing. -/
theorem fits_two {f : Fi} {ls : List Lk} {z : List (Spt × Int)} {p : Spt} {a b : Int} (ha : (p, a) ∈ z) (hb : (p, b) ∈ z) (hab : a ≠ b) : fitsB f ls z = false := by
  rw [Bool.eq_false_iff]
  intro H
  have h1 := ((fits_iff.1 H) (p, a) ha).2 (p, b) hb
  have h2 := ((fits_iff.1 H) (p, b) hb).2 (p, a) ha
  simp only [far_self] at h1 h2
  omega
end Go.Proofs.Ytjpoacffnpgjdaa
