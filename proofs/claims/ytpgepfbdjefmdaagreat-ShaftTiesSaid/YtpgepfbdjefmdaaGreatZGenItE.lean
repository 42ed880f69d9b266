import Derived.RangeFuncBox
import Derived.Test.YtpgepfbdjefmdaaGreatJ11
import Derived.Test.YtpgepfbdjefmdaaGreatJ10
import Derived.Test.YtpgepfbdjefmdaaGreatJ12
namespace Go.Proofs.YtpgepfbdjefmdaaGreat
open Go Go.RowKit Go.Shelf
theorem kp_setCell {n₀ B g i : Nat} {U : List TypeId} {w : World} {v : Value} {cs : Array Value} {t : TypeId} {fr : Nat × Nat} (hg : w.heap[g]? = some (.cells cs t fr)) (ht : t ∉ U) (hn : n₀ ≤ g) : Kp n₀ B U w (w.setCell ⟨g, i, none⟩ v) :=
  ⟨(Below.refl n₀ w).setCell (p := ⟨g, i, none⟩) hn v, fun k cs' ty fr' _ hx hu => (Below.heap_setCell w ⟨g, i, none⟩ v k (fun e => by
    simp only at e
    subst e
    rw [hg] at hx; cases hx; exact ht hu)).trans hx⟩
end Go.Proofs.YtpgepfbdjefmdaaGreat
