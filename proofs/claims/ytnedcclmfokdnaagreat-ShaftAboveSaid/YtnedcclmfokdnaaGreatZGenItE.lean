import Derived.Test.YtnedcclmfokdnaaGreatJ4
import Derived.Lib.SmallJoins
import Derived.Laws.Tables
import Derived.Test.YtnedcclmfokdnaaGreatJ11
import Derived.RangeFuncBox
import Derived.Test.YtnedcclmfokdnaaGreatJ10
import Derived.Test.YtnedcclmfokdnaaGreatJ12
namespace Go.Proofs.YtnedcclmfokdnaaGreat
open Go.RowKit
theorem put1b {w : World} {b : Nat} {t : TypeId} {p : Value} (x : Value) (h : w.heap[b]? = some (.cells #[p] t)) : (w.setCell ⟨b, 0, none⟩ x).heap[b]? = some (.cells #[x] t) := by
  simpa using Joins.block_setCell (i := 0) h x
end Go.Proofs.YtnedcclmfokdnaaGreat

namespace Go.Proofs.YtnedcclmfokdnaaGreat
open Go Go.RowKit Go.Shelf
theorem kp_setCell {n₀ B g i : Nat} {U : List TypeId} {w : World} {v : Value} {cs : Array Value} {t : TypeId} {fr : Nat × Nat} (hg : w.heap[g]? = some (.cells cs t fr)) (ht : t ∉ U) (hn : n₀ ≤ g) : Kp n₀ B U w (w.setCell ⟨g, i, none⟩ v) :=
  ⟨(Below.refl n₀ w).setCell (p := ⟨g, i, none⟩) hn v, fun k cs' ty fr' _ hx hu => (Below.heap_setCell w ⟨g, i, none⟩ v k (fun e => by
    simp only at e
    subst e
    rw [hg] at hx; cases hx; exact ht hu)).trans hx⟩
end Go.Proofs.YtnedcclmfokdnaaGreat
