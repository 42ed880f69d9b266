import Derived.Test.YtnedcclmfokdnaaGreatJ2
namespace Go.Proofs.YtnedcclmfokdnaaGreat
open Go.RowKit
theorem canZ_tk {l : List Tie} {a b : Pt} {z : Int} (hz : 0 < z) : CanZ l a b z ↔ ∃ g, Keeps l g ∧ z ≤ tk g a b := by
  rw [canZ_iff]
  constructor
  · rintro ⟨g, h, h2⟩; exact ⟨g, h, by unfold tk; omega⟩
  · rintro ⟨g, h, h2⟩; exact ⟨g, h, by unfold tk at h2; omega⟩
theorem leastZ_has {l : List Tie} {n : Int} {a b : Pt} (ok : NetOk l n) (h : PtsOk l n a b) (hc : Can l) : ∃ g, Keeps l g ∧ tk g a b = leastZ l a b := by
  have key : ∀ S : List Pt, S ≠ [] → ∃ s ∈ S, ∀ t ∈ S, -(dst l s.own s.ahead) ≤ -(dst l t.own t.ahead) := by
    intro S
    induction S with
    | nil => intro h; exact absurd rfl h
    | cons x S ih =>
      intro _
      by_cases e : S = []
      · subst e; exact ⟨x, by simp, fun t ht => by rw [List.mem_singleton] at ht; subst ht; exact Int.le_refl _⟩
      · obtain ⟨s, h1, h2⟩ := ih e
        by_cases hx : -(dst l s.own s.ahead) ≤ -(dst l x.own x.ahead)
        · exact ⟨s, by simp [h1], fun t ht => by
            rcases List.mem_cons.1 ht with rfl | ht
            · exact hx
            · exact h2 t ht⟩
        · exact ⟨x, by simp, fun t ht => by
            rcases List.mem_cons.1 ht with rfl | ht
            · exact Int.le_refl _
            · have := h2 t ht; omega⟩
  obtain ⟨s, h1, h2⟩ := key (sides a b) (by simp [sides])
  have hr : Reaches l n s.own ∧ 0 ≤ s.own ∧ s.own < n := by
    simp only [sides, List.mem_cons, List.not_mem_nil, or_false] at h1
    rcases h1 with rfl | rfl | rfl | rfl
    · exact ⟨h.ra, h.a2⟩
    · exact ⟨h.rb, h.b2⟩
    · exact ⟨h.ra, h.a2⟩
    · exact ⟨h.rb, h.b2⟩
  refine ⟨dst l s.own, dst_heights ok hc hr.1, leastZ_at h h1 (dst_heights ok hc hr.1) ?_ h2⟩
  rw [dst_self hc]; omega
theorem mostZ_ge {l : List Tie} {a b : Pt} {g : Int → Int} (hk : Keeps l g) (hw : g a.own - g a.ahead ≤ 1048576 ∨ g b.own - g b.ahead ≤ 1048576) : tk g a b ≤ mostZ l a b := by
  have h := mostZ_is l a b
  apply Classical.byContradiction
  intro hc
  have h0 := h.1.1
  have hz : CanZ l a b (tk g a b) := (canZ_tk (by omega)).2 ⟨g, hk, Int.le_refl _⟩
  rcases h.2.2 with h2 | h2
  · have : tk g a b ≤ 1048576 := by unfold tk; omega
    omega
  · exact h2 (canZ_less hz (by omega))
theorem mostZ_has {l : List Tie} {a b : Pt} (hc : Can l) (hw : ∀ g, Keeps l g → g a.own - g a.ahead ≤ 1048576 ∨ g b.own - g b.ahead ≤ 1048576) : ∃ g, Keeps l g ∧ tk g a b = mostZ l a b := by
  have h := mostZ_is l a b
  by_cases e : mostZ l a b = 0
  · obtain ⟨g, hk⟩ := hc
    have := mostZ_ge hk (hw g hk)
    exact ⟨g, hk, by rw [e] at this ⊢; unfold tk at this ⊢; omega⟩
  · rcases h.2.1 with h1 | h1
    · exact absurd h1 e
    · obtain ⟨g, hk, hg⟩ := (canZ_tk (by have := h.1.1; omega)).1 h1
      exact ⟨g, hk, by have := mostZ_ge hk (hw g hk); omega⟩
end Go.Proofs.YtnedcclmfokdnaaGreat
