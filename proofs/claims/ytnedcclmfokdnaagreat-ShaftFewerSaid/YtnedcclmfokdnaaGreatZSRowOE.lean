import Derived.Test.YtnedcclmfokdnaaGreatJ29
import Derived.Test.YtnedcclmfokdnaaGreatRows
import Derived.Test.YtnedcclmfokdnaaGreatJ27
import Derived.WalkKit
import Derived.ProofKit
import Derived.OpenShut
import Derived.Test.YtnedcclmfokdnaaGreatJ30
namespace Go.Proofs.YtnedcclmfokdnaaGreat
open Go.RowKit Go.ChangeShapes Go.WideShapes Go.Deep
section
variable {H : Type} {enc : TypeId × Value → H} {P : Program} {w : World} {base : Nat} {spare : Nat → Bool} {held : Bool}
theorem open_cellsS {α : Type} [Inhabited α] {c : α → List Value} {s : Nat} {t e : TypeId} {r : Reach} {b0 : Nat} {v : Value} {d : DataW H} {p : List MemPlace} (ht : P.underlying t = some (.slice e)) (he : P.cellsOf e = s) (hs : 0 < s)
    (hc : ∀ (fuel : Nat) (cs : List Value) (x : DataW H × List MemPlace), DataW.trod enc P w base spare held fuel e cs = some x → cs.length = s → ∃ x, c x = cs)
    (hval : Value.okWide P w r b0 t v) (h : DataW.Trod enc P w base spare held t v d p) : (∃ l : List α, Sl c s w w.heap.size v l) ∨ ∃ A n cap, v = .slice A n cap ∧ 140737488355328 < n := by
  obtain ⟨A, len, cap, rfl⟩ := okWide_slice ht hval
  obtain ⟨fuel, hf⟩ := h
  rcases open_slice ht hf with ⟨h0, _⟩ | ⟨a, len', cap', m, k, D, Pl, h0, hb, hl, hm, hmm, _, hx⟩
  · simp only [Value.cells, List.cons.injEq, Value.slice.injEq, and_true] at h0
    obtain ⟨rfl, rfl, rfl⟩ := h0
    exact .inl ⟨[], Sl.nil_⟩
  · simp only [Value.cells, List.cons.injEq, Value.slice.injEq, and_true] at h0
    obtain ⟨rfl, rfl, rfl⟩ := h0
    rcases Nat.lt_or_ge 140737488355328 len with hbig | hsmall
    · exact .inr ⟨_, _, _, rfl, hbig⟩
    left
    have hle : len ≤ m := by rw [hmm]; split <;> omega
    obtain ⟨f, hf2⟩ := choose_lt (α := α) (n := len) (p := fun i x => w.cells? base (a.add (i * P.cellsOf e)) (P.cellsOf e) = some (c x)) fun i hi => by
      obtain ⟨cs', h1, h2⟩ := hx i (by omega)
      obtain ⟨_, h3, _⟩ := World.cells?_some h1
      obtain ⟨x, rfl⟩ := hc _ cs' _ h2 (h3.trans he)
      exact ⟨x, h1⟩
    refine ⟨(List.range len).map f, some a, cap, by simp, by simpa using hl, by simpa using hsmall, fun hn => ?_⟩
    simp only [List.length_map, List.length_range] at hn
    have h1 := hf2 0 hn
    obtain ⟨_, h3, h4⟩ := World.cells?_some h1
    have h5 := h4 0 (by omega)
    rw [Nat.zero_mul] at h5
    have h6 : w.cell? a = (c (f 0))[0]? := by simpa [Addr.add] using h5
    rw [List.getElem?_eq_getElem (by omega)] at h6
    obtain ⟨b, off, spot⟩ := a
    have hsp : spot = none := by
      unfold World.cell? at h6
      split at h6
      · cases spot with
        | none => rfl
        | some _ => simp at h6
      · cases h6
    subst hsp
    refine ⟨b, off, rfl, ?_, fun i x hix j u hu => ?_⟩
    · rcases Nat.lt_or_ge b w.heap.size with hlt | hge
      · exact hlt
      · unfold World.cell? at h6
        rw [Array.getElem?_eq_none hge] at h6
        cases h6
    · have hi : i < len := by have := (List.getElem?_eq_some_iff.1 hix).1; simpa using this
      rw [List.getElem?_map, List.getElem?_range hi] at hix
      simp only [Option.map_some, Option.some.injEq] at hix
      subst hix
      obtain ⟨_, h7, h8⟩ := World.cells?_some (hf2 i hi)
      have hj := (List.getElem?_eq_some_iff.1 hu).1
      have h9 := h8 j (by omega)
      rw [hu] at h9
      rw [← h9, he]
      congr 1
      unfold Addr.add
      split
      · split
        · rename_i e1 e2; rw [e1, e2]; simp
        · rename_i e1 e2; rw [e1]; simp
      · split
        · rename_i e1 e2; rw [e2]; simp
        · simp
theorem open_rowsS {α : Type} [Inhabited α] {c : α → List Value} {s : Nat} {t e : TypeId} {r : Reach} {b0 : Nat} {v : Value} {d : DataW H} {p : List MemPlace} (n : Nat) (ht : P.underlying t = some (.slice e)) (he : P.cellsOf e = s) (hs : 0 < s) (ha : allInts P n e = true)
    (hc : ∀ cs : List Value, cs.length = s → (∀ u ∈ cs, IsInt u) → ∃ x, c x = cs)
    (hval : Value.okWide P w r b0 t v) (h : DataW.Trod enc P w base spare held t v d p) : (∃ l : List α, Sl c s w w.heap.size v l) ∨ ∃ A n cap, v = .slice A n cap ∧ 140737488355328 < n :=
  open_cellsS ht he hs (fun fuel cs x hx hl => hc cs hl (ints_of_trod n e fuel cs x ha hx)) hval h
end
end Go.Proofs.YtnedcclmfokdnaaGreat

namespace Go.Proofs.YtnedcclmfokdnaaGreat
open Go.ChangeShapes Go.WideShapes Go.ChangeAt Go.RowKit Go.Deep
section
variable {H : Type} {enc : TypeId × Value → H} {w : World} {base b0 : Nat} {spare : Nat → Bool} {held : Bool} {r : Reach} {v : Value} {d : DataW H} {p : List MemPlace}
set_option maxRecDepth 100000 in
theorem open_Is (hval : Value.okWide Tryz.prog w r b0 27 v) (h : DataW.Trod enc Tryz.prog w base spare held 27 v d p) : ∃ (A : Option Addr) (n c : Nat), v = .slice A n c ∧ ((∃ l : List Int, l.length = n ∧ Ints w w.heap.size v l) ∨ 140737488355328 < n) := by
  have h9 : (∃ l : List Int, Ints w w.heap.size v l) ∨ ∃ A n cap, v = .slice A n cap ∧ 140737488355328 < n := by
    refine open_rowsS 5 Tryz.underlying27 (by kernel_rfl) (by omega) (by kernel_rfl) (fun cs hl hi => ?_) hval h
    match cs, hl with
    | [c0], _ =>
      obtain ⟨x0, rfl, _⟩ := hi c0 (by simp)
      exact ⟨x0, rfl⟩
  obtain ⟨A, n, c, rfl, s⟩ := sl_slice h9
  exact ⟨A, n, c, rfl, s.imp (fun ⟨l, e, h⟩ => ⟨l, e.symm, h⟩) id⟩
end
end Go.Proofs.YtnedcclmfokdnaaGreat
