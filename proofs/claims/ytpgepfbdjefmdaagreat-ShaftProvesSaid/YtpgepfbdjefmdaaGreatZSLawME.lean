import Derived.Test.YtpgepfbdjefmdaaGreatJ8
import Derived.Test.YtpgepfbdjefmdaaGreatJ25
namespace Go.Proofs.YtpgepfbdjefmdaaGreat
open Go.RowKit
theorem above_accepts {k : Kl} {fr to m : Int} {pp tl td : List Int} (hc : checkI k = 0) (hm : marksI k fr to = 0) (hf : 0 ≤ fr ∧ fr < marksN k) (ht : 0 ≤ to ∧ to < marksN k) (h : AboveIs k fr to m pp tl td) : aboveC k fr to m pp tl td = 0 := by
  obtain ⟨h1, h2, h3, h4⟩ := above_facts (right_of_check hc) hf ht h
  unfold aboveC
  rw [if_neg (by rw [hm]; simp), if_neg (by omega), if_pos ⟨h1, fitsB_iff.2 ⟨hc, h3⟩, h4⟩]
end Go.Proofs.YtpgepfbdjefmdaaGreat
