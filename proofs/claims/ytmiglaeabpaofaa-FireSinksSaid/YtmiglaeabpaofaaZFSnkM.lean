/- What FireSinks compares, as mathematics. No program is named here. -/
import Derived.Test.YtmiglaeabpaofaaJ2
import Derived.Test.YtmiglaeabpaofaaJ17
namespace Go.Proofs.Ytmiglaeabpaofaa
theorem snk_zero {f : Fi} {l : List Spt} {need : Int} (h : sunkE f l need = 0) : FireOk f ∧ agreeB f f.ls = true ∧ (0 ≤ need ∧ need ≤ 1500) ∧ l.length ≤ 200 ∧ ∀ n, 0 ≤ n ∧ n ≤ 1500 → sunkE f l n = 0 := by
  obtain ⟨a, b, c⟩ := known_zero h
  obtain ⟨b1, b2⟩ := first2.1 b
  refine ⟨fire_ok a, c, heat_iff.1 (heatE_iff.1 b2), (path_zero b1).1, fun n hn => ?_⟩
  exact known_ok a (first2.2 ⟨b1, heatE_iff.2 (heat_iff.2 hn)⟩) c
theorem snk_least {f : Fi} {l : List Spt} {need : Int} (h : sunkE f l need = 0) : leastR f l need = burnI (lowsI f l) need ∧ mostR f l need = burnI (highsI f l) need ∧ surelyR f l need = rowsI (lowsI f l) need ∧ possiblyR f l need = rowsI (highsI f l) need := by
  unfold leastR mostR surelyR possiblyR
  rw [if_pos h, if_pos h, if_pos h, if_pos h]
  exact ⟨rfl, rfl, rfl, rfl⟩
theorem at_map {l : List Spt} {g : Spt → Int} {i : Nat} {x : Int} (h : (l.map g)[i]? = some x) : ∃ p, l[i]? = some p ∧ x = g p := by
  rw [List.getElem?_map] at h
  cases hp : l[i]? with
  | none => rw [hp] at h; cases h
  | some p => rw [hp] at h; cases h; exact ⟨p, rfl, rfl⟩
/-- The least under the most; a greater need under a lesser one. -/
theorem snk_under {f : Fi} {l : List Spt} {need n : Int} (h : sunkE f l need = 0) (hn : need ≤ n) :
    underP (burnI (lowsI f l) need) (burnI (highsI f l) need) ∧ underP (burnI (lowsI f l) n) (burnI (lowsI f l) need) ∧ underP (burnI (highsI f l) n) (burnI (highsI f l) need) := by
  obtain ⟨hok, hag, _⟩ := snk_zero h
  refine ⟨burn_mono (Int.le_refl _) (by unfold lowsI highsI; simp) ?_, burn_mono hn rfl ?_, burn_mono hn rfl ?_⟩
  · intro i x y hx hy
    obtain ⟨p, hp, rfl⟩ := at_map hx
    obtain ⟨q, hq, rfl⟩ := at_map hy
    rw [hp] at hq; cases hq
    exact lo_hi hok.slope hok.look hag p
  · intro i x y hx hy; rw [hx] at hy; cases hy; exact Int.le_refl _
  · intro i x y hx hy; rw [hx] at hy; cases hy; exact Int.le_refl _
theorem snk_fits {f : Fi} {l : List Spt} {hs : List Int} {need : Int} (hE : fitsE f l hs = 0) (hF : fitsR f l hs = true) :
    l.length = hs.length ∧ (∀ x ∈ hs, 0 ≤ x ∧ x ≤ 1500) ∧ underP (burnI (lowsI f l) need) (burnI hs need) ∧ underP (burnI hs need) (burnI (highsI f l) need) ∧
      ∀ (k : Nat) (x : Int), hs[k]? = some x → (withinB (rowsI (lowsI f l) need) k = true → need ≤ x) ∧ (need ≤ x → withinB (rowsI (highsI f l) need) k = true) := by
  have hz : fitsB f f.ls (l.zip hs) = true := by unfold fitsR at hF; rwa [if_pos hE] at hF
  have h1 := (first2.1 (known_zero hE).2.1).2
  have hlen : l.length = hs.length ∧ hs.all heatB = true := by
    unfold toldE at h1
    by_cases h2 : l.length ≠ hs.length
    · rw [if_pos h2] at h1; cases h1
    · rw [if_neg h2] at h1
      refine ⟨by omega, ?_⟩
      cases h3 : hs.all heatB with
      | true => rfl
      | false => rw [h3] at h1; cases h1
  have hat : ∀ (i : Nat) (x : Int), hs[i]? = some x → ∃ p, l[i]? = some p ∧ endLo f f.ls p ≤ x ∧ x ≤ endHi f f.ls p := by
    intro i x hx
    have hi : i < hs.length := (List.getElem?_eq_some_iff.1 hx).1
    have hp : l[i]? = some (l[i]'(by omega)) := List.getElem?_eq_getElem (by omega)
    exact ⟨_, hp, fits_at hz hp hx⟩
  refine ⟨hlen.1, fun x hx => heat_iff.1 (List.all_eq_true.1 hlen.2 x hx), burn_mono (Int.le_refl _) (by unfold lowsI; simp [hlen.1]) ?_, burn_mono (Int.le_refl _) (by unfold highsI; simp [hlen.1]) ?_, fun k x hx => ?_⟩
  · intro i x y hx hy
    obtain ⟨p, hp, rfl⟩ := at_map hx
    obtain ⟨q, hq, h2, _⟩ := hat i y hy
    rw [hp] at hq; cases hq
    exact h2
  · intro i x y hx hy
    obtain ⟨p, hp, rfl⟩ := at_map hy
    obtain ⟨q, hq, _, h2⟩ := hat i x hx
    rw [hp] at hq; cases hq
    exact h2
  · obtain ⟨p, hp, h2, h3⟩ := hat k x hx
    have e1 : (lowsI f l)[k]? = some (endLo f f.ls p) := by unfold lowsI; rw [List.getElem?_map, hp]; rfl
    have e2 : (highsI f l)[k]? = some (endHi f f.ls p) := by unfold highsI; rw [List.getElem?_map, hp]; rfl
    rw [within_rows e1, within_rows e2]
    simp only [decide_eq_true_eq]
    exact ⟨fun h => by omega, fun h => by omega⟩
theorem rows_short {f : Fi} {l : List Spt} {need : Int} (g : Fi → List Spt → List Int) (hg : (g f l).length = l.length) : (rowsI (g f l) need).length ≤ l.length := by
  have := rows_len (g f l) need (Nat.le_refl (g f l).length)
  unfold rowsI; omega
end Go.Proofs.Ytmiglaeabpaofaa
