/- A slice of looks keeps where a block is written that held a fire. No program is named here. -/
import Derived.Test.YtmiglaeabpaofaaJ2
import Derived.Test.YtmiglaeabpaofaaJ4
namespace Go.Proofs.Ytmiglaeabpaofaa
open Go Go.RowKit
theorem lks_setRow {w : World} {B k : Nat} {v : Value} {l : List Lk} {c0 c1 c2 c3 : Value} {A : Option Addr} {n c : Nat} {t : TypeId} (h : Sl lkC 5 w B v l)
    (o : w.heap[k]? = some (.cells #[c0, c1, c2, c3, .slice A n c] t)) (cs : Array Value) : Sl lkC 5 (w.setRow k cs) B v l := by
  by_cases hl : 0 < l.length
  · refine h.setRow ?_ cs
    obtain ⟨A, cap, rfl, h1, h2, h3⟩ := h
    obtain ⟨b, off, rfl, hb, hc⟩ := h3 hl
    intro e
    have e2 : b = k := by simpa [Value.ownBlock] using e
    subst e2
    have h4 := hc 0 l[0] (List.getElem?_eq_getElem hl) 4 _ rfl
    have h5 := Joins.cell_of_block o (off + 4)
    have e3 : off + 0 * 5 + 4 = off + 4 := by omega
    rw [e3, h5] at h4
    cases off with
    | zero => simp at h4
    | succ m => simp at h4
  · obtain ⟨A, cap, rfl, h1, h2, h3⟩ := h
    exact ⟨A, cap, rfl, h1, h2, fun h => absurd h hl⟩
end Go.Proofs.Ytmiglaeabpaofaa
