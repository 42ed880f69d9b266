import Derived.Test.YtpgepfbdjefmdaaGreatJ25
import Derived.Test.YtpgepfbdjefmdaaGreatZSSpecE
import Derived.Test.YtpgepfbdjefmdaaGreatZSLawNE
namespace Go.Proofs.YtpgepfbdjefmdaaGreat
open Go.RowKit
theorem hour_ok {k : Kl} {h : Int} (hc : checkI k = 0) (h0 : 0 ≤ h) (h1 : h ≤ 16384) : hourI k h = 0 := by
  unfold hourI; rw [if_neg (by simp [hc]), if_pos (inB_iff.2 ⟨h0, h1⟩)]
theorem charged_made {k : Kl} (hR : Right k) {i : Nat} {x : Rec} (hx : k.ls[i]? = some x) {h : Int} : x.hour ≤ h ↔ (i : Int) + 1 ≤ chargedI k h := by
  rw [made_by hR.upL hx]
  unfold chargedI
  rw [cnt_last hR.upL]
  omega
theorem below_ok {k : Kl} {h : Int} (hc : checkI k = 0) (h0 : 0 ≤ h) (h1 : h ≤ 16384) {i : Nat} {x : Rec} (hx : k.ls[i]? = some x) : belowE k x.id h = if x.hour ≤ h then betw k (drawnI k h) i else ((0, 0), 1) := by
  have hR := right_of_check hc
  unfold belowE
  rw [if_neg (by rw [hour_ok hc h0 h1]; simp), place_at hR.noL hx, if_neg (by omega)]
  by_cases hh : x.hour ≤ h
  · have := (charged_made hR hx).1 hh
    rw [if_neg (by omega), if_pos hh]
  · have : ¬ (i : Int) + 1 ≤ chargedI k h := fun hc => hh ((charged_made hR hx).2 hc)
    rw [if_pos (by omega), if_neg hh]
end Go.Proofs.YtpgepfbdjefmdaaGreat
