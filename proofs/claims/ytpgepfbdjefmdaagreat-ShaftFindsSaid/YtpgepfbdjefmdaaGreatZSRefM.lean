/- What Run and Weight come to, in the reference's order (no program). -/
import Derived.Test.YtpgepfbdjefmdaaGreatJ25
import Derived.Test.YtpgepfbdjefmdaaGreatJ8
namespace Go.Proofs.YtpgepfbdjefmdaaGreat
open Go Go.RowKit Go.Shelf

theorem load_only {k : Kl} (hR : Right k) {id : Int} (h : 0 ≤ place k.ls id) : place k.ds id = -1 := by
  rcases place_cases k.ls id with ⟨h1, _⟩ | ⟨i, x, h1, hx, hid, _⟩
  · omega
  · refine place_none fun j y hy e => hR.parts.2.2.2 x (List.mem_of_getElem? hx) y (List.mem_of_getElem? hy) (by rw [hid, e])
theorem runI_miss {rs : List Rec} {bs f t : Int} (h : place rs f < 0 ∨ place rs t < 0) : runI rs bs f t = ((0, 0), 5) := by unfold runI; rw [if_pos h]
theorem runI_back {rs : List Rec} {bs f t : Int} (h1 : ¬ (place rs f < 0 ∨ place rs t < 0)) (h : place rs t < place rs f) : runI rs bs f t = ((0, 0), 1) := by unfold runI; rw [if_neg h1, if_pos h]
theorem runI_ok {rs : List Rec} {bs f t : Int} (h1 : ¬ (place rs f < 0 ∨ place rs t < 0)) (h : ¬ place rs t < place rs f) : runI rs bs f t = ((markB bs (place rs f), markB bs (place rs t + 1)), 0) := by unfold runI; rw [if_neg h1, if_neg h]
theorem run_ref {k : Kl} (hc : checkI k = 0) (f t : Int) : runE k f t = if (place k.ls f < 0 ∨ place k.ls t < 0) ∧ (place k.ds f < 0 ∨ place k.ds t < 0) then ((0, 0), 5) else if place k.ls t < place k.ls f ∨ place k.ds t < place k.ds f then ((0, 0), 1) else
    if 0 ≤ place k.ls f then betw k (place k.ls f) (place k.ls t + 1) else betw k (markI k (place k.ds f)) (markI k (place k.ds t + 1)) := by
  have hR := right_of_check hc
  have r1 := place_range k.ls f
  have r2 := place_range k.ls t
  have r3 := place_range k.ds f
  have r4 := place_range k.ds t
  have kf := fun h => load_only hR (id := f) h
  have kt := fun h => load_only hR (id := t) h
  by_cases h1 : place k.ls f < 0 ∨ place k.ls t < 0
  · by_cases h2 : place k.ds f < 0 ∨ place k.ds t < 0
    · have e : runM k f t = ((0, 0), 5) := by unfold runM; rw [runI_miss h1, runI_miss h2]; rfl
      rw [if_pos ⟨h1, h2⟩]
      unfold runE; rw [if_neg (by simp [hc]), e]; rfl
    · rw [if_neg (fun h => h2 h.2)]
      have e1 : ¬ 0 ≤ place k.ls f := fun hn => by have := kf hn; omega
      have e2 : ¬ 0 ≤ place k.ls t := fun hn => by have := kt hn; omega
      by_cases h3 : place k.ds t < place k.ds f
      · have e : runM k f t = ((0, 0), 1) := by unfold runM; rw [runI_miss h1, runI_back h2 h3]; rfl
        rw [if_pos (Or.inr h3)]
        unfold runE; rw [if_neg (by simp [hc]), e]; rfl
      · have e : runM k f t = ((markB k.ls.length (place k.ds f), markB k.ls.length (place k.ds t + 1)), 0) := by unfold runM; rw [runI_miss h1, runI_ok h2 h3]; rfl
        rw [if_neg (by omega), if_neg e1]
        unfold runE; rw [if_neg (by simp [hc]), e]; rfl
  · rw [if_neg (fun h => h1 h.1)]
    have k1 := kf (by omega)
    have k2 := kt (by omega)
    by_cases h3 : place k.ls t < place k.ls f
    · have e : runM k f t = ((0, 0), 1) := by unfold runM; rw [runI_back h1 h3]; rfl
      rw [if_pos (Or.inl h3)]
      unfold runE; rw [if_neg (by simp [hc]), e]; rfl
    · have e : runM k f t = ((markB 0 (place k.ls f), markB 0 (place k.ls t + 1)), 0) := by unfold runM; rw [runI_ok h1 h3]; rfl
      rw [if_neg (by omega), if_pos (by omega)]
      unfold runE; rw [if_neg (by simp [hc]), e]
      show betw k (markB 0 (place k.ls f)) (markB 0 (place k.ls t + 1)) = _
      rw [markB_zero, markB_zero]
theorem weight_ref {k : Kl} (hc : checkI k = 0) (id : Int) : weightE k id = if 0 ≤ place k.ls id then betw k (place k.ls id) (place k.ls id + 1) else if 0 ≤ place k.ds id then betw k (markI k (place k.ds id)) (markI k (place k.ds id + 1)) else ((0, 0), 5) := by
  unfold weightE
  rw [run_ref hc]
  have r1 := place_range k.ls id
  have r3 := place_range k.ds id
  by_cases h1 : 0 ≤ place k.ls id
  · rw [if_neg (by omega), if_neg (by omega), if_pos h1, if_pos h1]
  · rw [if_neg h1]
    by_cases h2 : 0 ≤ place k.ds id
    · rw [if_neg (by omega), if_neg (by omega), if_neg h1, if_pos h2]
    · rw [if_pos (by omega), if_neg h1, if_neg h2]
end Go.Proofs.YtpgepfbdjefmdaaGreat
