import Derived.Test.YtnedcclmfokdnaaGreatJ25
import Derived.Test.YtnedcclmfokdnaaGreatZSLawNE
namespace Go.Proofs.YtnedcclmfokdnaaGreat
open Go.RowKit
theorem took_ok {k : Kl} (hc : checkI k = 0) (hca : Can (tiesL k)) {i j : Nat} {x y : Rec} (hx : k.ls[i]? = some x) (hy : k.ds[j]? = some y) :
    tookE k y.id x.id = ((leastZ (tiesL k) (loadP i) (drawP k j), mostZ (tiesL k) (loadP i) (drawP k j)), 0) := by
  have hR := right_of_check hc
  unfold tookE
  rw [if_neg (by simp [hc]), place_at hR.noL hx, place_at hR.noD hy, if_neg (by omega), if_pos (canB_true.2 hca)]
theorem source_ok {k : Kl} (hc : checkI k = 0) {j : Nat} {y : Rec} (hy : k.ds[j]? = some y) : sourceE k y.id = if canB (tiesL k) = true then 0 else 9 := by
  have hR := right_of_check hc
  have : pairE k k.ds y.id = 0 := by unfold pairE; rw [if_neg (by simp [hc]), place_at hR.noD hy, if_neg (by omega)]
  unfold sourceE
  rw [if_neg (by rw [this]; simp)]
theorem mem_sureL {l : List Tie} {rs : List Rec} {bs : Int} {p : Pt} {n : Int} : n ∈ sureL l rs bs p rs.length ↔ ∃ (i : Nat) (x : Rec), rs[i]? = some x ∧ x.id = n ∧ 0 < leastZ l ⟨markB bs i, markB bs (i + 1)⟩ p := by
  unfold sureL
  simp only [List.mem_flatMap, List.mem_range]
  constructor
  · rintro ⟨i, hi, h⟩
    rw [List.getElem?_eq_getElem hi] at h
    simp only at h
    split at h
    · rename_i hz
      exact ⟨i, _, List.getElem?_eq_getElem hi, (List.mem_singleton.1 h).symm, hz⟩
    · cases h
  · rintro ⟨i, x, hx, e, hz⟩
    refine ⟨i, (List.getElem?_eq_some_iff.1 hx).1, ?_⟩
    rw [hx]
    simp only [if_pos hz, List.mem_singleton]
    exact e.symm
theorem mem_someL {l : List Tie} {rs : List Rec} {bs : Int} {p : Pt} {n : Int} : n ∈ someL l rs bs p rs.length ↔ ∃ (i : Nat) (x : Rec), rs[i]? = some x ∧ x.id = n ∧ 0 < mostZ l ⟨markB bs i, markB bs (i + 1)⟩ p := by
  unfold someL
  simp only [List.mem_flatMap, List.mem_range]
  constructor
  · rintro ⟨i, hi, h⟩
    rw [List.getElem?_eq_getElem hi] at h
    simp only at h
    split at h
    · rename_i hz
      exact ⟨i, _, List.getElem?_eq_getElem hi, (List.mem_singleton.1 h).symm, hz⟩
    · cases h
  · rintro ⟨i, x, hx, e, hz⟩
    refine ⟨i, (List.getElem?_eq_some_iff.1 hx).1, ?_⟩
    rw [hx]
    simp only [if_pos hz, List.mem_singleton]
    exact e.symm
theorem sure_iff {k : Kl} (hc : checkI k = 0) (hca : Can (tiesL k)) {i j : Nat} {x y : Rec} (hx : k.ls[i]? = some x) (hy : k.ds[j]? = some y) : x.id ∈ sourceS k y.id ↔ 0 < leastZ (tiesL k) (loadP i) (drawP k j) := by
  have hR := right_of_check hc
  unfold sourceS
  rw [if_pos (by rw [source_ok hc hy, if_pos (canB_true.2 hca)]), mem_sureL, place_at hR.noD hy]
  simp only [loadP_mark]
  constructor
  · rintro ⟨m, z, hz, e, h⟩
    obtain rfl := hR.noL m i z x hz hx e
    exact h
  · intro h; exact ⟨i, x, hx, rfl, h⟩
theorem some_iff {k : Kl} (hc : checkI k = 0) (hca : Can (tiesL k)) {i j : Nat} {x y : Rec} (hx : k.ls[i]? = some x) (hy : k.ds[j]? = some y) : x.id ∈ sourceM k y.id ↔ 0 < mostZ (tiesL k) (loadP i) (drawP k j) := by
  have hR := right_of_check hc
  unfold sourceM
  rw [if_pos (by rw [source_ok hc hy, if_pos (canB_true.2 hca)]), mem_someL, place_at hR.noD hy]
  simp only [loadP_mark]
  constructor
  · rintro ⟨m, z, hz, e, h⟩
    obtain rfl := hR.noL m i z x hz hx e
    exact h
  · intro h; exact ⟨i, x, hx, rfl, h⟩
end Go.Proofs.YtnedcclmfokdnaaGreat
