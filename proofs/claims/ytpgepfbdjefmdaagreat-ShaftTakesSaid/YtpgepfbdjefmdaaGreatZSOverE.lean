import Derived.Test.YtpgepfbdjefmdaaGreatJ2
namespace Go.Proofs.YtpgepfbdjefmdaaGreat
open Go.RowKit
theorem canZ_tk {l : List Tie} {a b : Pt} {z : Int} (hz : 0 < z) : CanZ l a b z ↔ ∃ g, Keeps l g ∧ z ≤ tk g a b := by
  rw [canZ_iff]
  constructor
  · rintro ⟨g, h, h2⟩; exact ⟨g, h, by unfold tk; omega⟩
  · rintro ⟨g, h, h2⟩; exact ⟨g, h, by unfold tk at h2; omega⟩
theorem mostZ_ge {l : List Tie} {a b : Pt} {g : Int → Int} (hk : Keeps l g) (hw : g a.own - g a.ahead ≤ 1048576 ∨ g b.own - g b.ahead ≤ 1048576) : tk g a b ≤ mostZ l a b := by
  have h := mostZ_is l a b
  apply Classical.byContradiction
  intro hc
  have h0 := h.1.1
  have hz : CanZ l a b (tk g a b) := (canZ_tk (by omega)).2 ⟨g, hk, Int.le_refl _⟩
  rcases h.2.2 with h2 | h2
  · have : tk g a b ≤ 1048576 := by unfold tk; omega
    omega
  · exact h2 (canZ_less hz (by omega))
end Go.Proofs.YtpgepfbdjefmdaaGreat
