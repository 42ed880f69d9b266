/- Bins of package sample: a sample is drawn. What its row keeps beside the bin (the walk under way is tools/tries/X3BinC.lean). -/
import Derived.Test.YtaaeipjnhjgjdaaZ3BinB
import Derived.Test.YtaaeipjnhjgjdaaJ14
import Derived.Test.YtaaeipjnhjgjdaaJ28
namespace Go.Proofs.Ytaaeipjnhjgjdaa
open Go Go.RowKit

theorem own_ne_block {w : World} {base n sz g : Nat} {e t : TypeId} {v : Value} {xs : List Value} {cs : Array Value} (h : w.ownsRow base e sz v n xs) (hg : w.heap[g]? = some (.cells cs t)) (hne : e ≠ t) : v.ownBlock ≠ some g := by
  intro hk
  rcases h.2 with ⟨rfl, _⟩ | ⟨gd, cap, cur, rfl, _, hc, _⟩
  · simp [Value.ownBlock] at hk
  · simp only [Value.ownBlock, Option.some.injEq] at hk
    subst hk
    rw [hg] at hc
    simp at hc
    exact hne hc.2.symm
theorem own_setCell {w : World} {base n sz g : Nat} {e : TypeId} {v : Value} {xs : List Value} (h : w.ownsRow base e sz v n xs) (i : Nat) (u : Value) (hne : v.ownBlock ≠ some g) : (w.setCell ⟨g, i, none⟩ u).ownsRow base e sz v n xs := by
  refine ⟨h.1, ?_⟩
  rcases h.2 with h0 | ⟨gd, cap, cur, rfl, hb, hc, rest⟩
  · exact .inl h0
  · exact .inr ⟨gd, cap, cur, rfl, hb, (Below.heap_setCell w ⟨g, i, none⟩ u gd (fun e => hne (by rw [Value.ownBlock, e]))).trans hc, rest⟩
end Go.Proofs.Ytaaeipjnhjgjdaa
