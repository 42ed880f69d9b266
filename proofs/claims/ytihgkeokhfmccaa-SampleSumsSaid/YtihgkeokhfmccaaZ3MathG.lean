/- Batches together: spans that hold together, what is told of them beside the reference. No program is named here. -/
import Derived.Test.YtihgkeokhfmccaaZ3MathF
import Derived.Test.YtihgkeokhfmccaaJ6
namespace Go.Proofs.Ytihgkeokhfmccaa

theorem tog_ok {l : List Bt} {s : Int} {p : Sp} (h : togetherE l s p = 0) : l.length ≤ 12 ∧ (∀ b ∈ l, checkB b = 0) ∧ (0 ≤ s ∧ s ≤ 2) ∧ p.lo ≤ p.hi ∧ p.lo ≤ hisI l s ∧ losI l s ≤ p.hi := by
  unfold togetherE at h
  by_cases h1 : 12 < l.length
  · rw [if_pos h1] at h; omega
  · rw [if_neg h1] at h
    by_cases h2 : firstE l ≠ 0
    · rw [if_pos h2] at h; exact absurd h h2
    · rw [if_neg h2] at h
      by_cases h3 : inI s 0 2 = false ∨ p.hi < p.lo
      · rw [if_pos h3] at h; omega
      · rw [if_neg h3] at h
        by_cases h4 : hisI l s < p.lo ∨ p.hi < losI l s
        · rw [if_pos h4] at h; omega
        · refine ⟨by omega, ?_, ?_, by omega, by omega, by omega⟩
          · cases hf : l.find? badB with
            | none => exact (first_ok hf).2
            | some x =>
              have e := first_bad hf
              have hb := List.find?_some hf
              simp only [badB, bne_iff_ne] at hb
              exact absurd (by omega : checkB x = 0) hb
          · have : inI s 0 2 = true := by
              cases hi : inI s 0 2 with
              | true => rfl
              | false => exact absurd (.inl hi) h3
            exact inI_iff.1 this
theorem tog_of {l : List Bt} {s : Int} {q : Sp} (h1 : l.length ≤ 12) (h2 : ∀ b ∈ l, checkB b = 0) (h3 : 0 ≤ s ∧ s ≤ 2) (h4 : q.lo ≤ q.hi) : togetherE l s q = if hisI l s < q.lo ∨ q.hi < losI l s then 9 else 0 := by
  have hf : l.find? badB = none := by
    rw [List.find?_eq_none]
    intro b hb
    simp [badB, h2 b hb]
  unfold togetherE
  rw [if_neg (by omega), if_neg (by rw [(first_ok hf).1]; omega), if_neg]
  rintro (h | h)
  · rw [inI_iff.2 h3] at h; cases h
  · omega
theorem sum_diff (f g : Bt → Int) : ∀ {l : List Bt}, (∀ b ∈ l, f b ≤ g b) → (l.map f).sum ≤ (l.map g).sum ∧ ∀ b ∈ l, (l.map f).sum - f b ≤ (l.map g).sum - g b
  | [], _ => by simp
  | x :: l, h => by
    have ih := sum_diff f g (l := l) fun b hb => h b (by simp [hb])
    have hx := h x (by simp)
    simp only [List.map_cons, List.sum_cons]
    refine ⟨by omega, fun b hb => ?_⟩
    rcases List.mem_cons.1 hb with rfl | hb
    · omega
    · have := ih.2 b hb; omega
theorem tog_sums {l : List Bt} (h : ∀ b ∈ l, checkB b = 0) (s : Int) : 0 ≤ losI l s ∧ losI l s ≤ hisI l s ∧ hisI l s ≤ 50 * l.length ∧ ∀ b ∈ l, losI l s - (endsI b s).lo ≤ hisI l s - (endsI b s).hi := by
  have a := sums_bound h s l.length (Nat.le_refl _)
  have b := sum_diff (fun b => (endsI b s).lo) (fun b => (endsI b s).hi) (l := l) fun b hb => (ends_range (h b hb) s).2.1
  unfold losI hisI at *
  unfold losP hisP at *
  rw [List.take_length] at *
  exact ⟨a.1, a.2.1, a.2.2, b.2⟩
theorem near_in {l : List Bt} {s : Int} {p : Sp} {b : Bt} (h : togetherE l s p = 0) (hb : b ∈ l) :
    (endsI b s).lo ≤ (nearI l s p b).lo ∧ (nearI l s p b).hi ≤ (endsI b s).hi ∧ (nearI l s p b).lo ≤ (nearI l s p b).hi ∧ p.lo ≤ (nearI l s p b).lo + (hisI l s - (endsI b s).hi) ∧ (nearI l s p b).lo + (losI l s - (endsI b s).lo) ≤ p.hi ∧
    p.lo ≤ (nearI l s p b).hi + (hisI l s - (endsI b s).hi) ∧ (nearI l s p b).hi + (losI l s - (endsI b s).lo) ≤ p.hi ∧
    ((endsI b s).lo < (nearI l s p b).lo → (nearI l s p b).lo - 1 + (hisI l s - (endsI b s).hi) < p.lo) ∧ ((nearI l s p b).hi < (endsI b s).hi → p.hi < (nearI l s p b).hi + 1 + (losI l s - (endsI b s).lo)) := by
  obtain ⟨h1, h2, h3, h4, h5, h6⟩ := tog_ok h
  obtain ⟨t1, t2, t3, t4⟩ := tog_sums h2 s
  have t5 := t4 b hb
  have t6 := ends_range (h2 b hb) s
  unfold nearI
  simp only
  generalize endsI b s = E at *
  generalize losI l s = LO at *
  generalize hisI l s = HI at *
  clear h t4 h2
  refine ⟨by omega, by omega, by omega, by omega, by omega, by omega, by omega, fun _ => by omega, fun _ => by omega⟩
theorem near_wide {l : List Bt} {s : Int} {b : Bt} (h : ∀ b ∈ l, checkB b = 0) (hl : l.length ≤ 12) (hb : b ∈ l) : nearI l s ⟨-1, 1000⟩ b = endsI b s := by
  obtain ⟨t1, t2, t3, t4⟩ := tog_sums h s
  have t5 := t4 b hb
  have t6 := ends_range (h b hb) s
  unfold nearI
  simp only
  generalize endsI b s = E at *
  cases E
  simp only [Sp.mk.injEq] at *
  exact ⟨by omega, by omega⟩
theorem near_mono {l : List Bt} {s : Int} {p q : Sp} {b : Bt} (h1 : p.lo ≤ q.lo) (h2 : q.hi ≤ p.hi) : (nearI l s p b).lo ≤ (nearI l s q b).lo ∧ (nearI l s q b).hi ≤ (nearI l s p b).hi := by
  unfold nearI
  simp only
  exact ⟨by omega, by omega⟩
theorem ends_50 {b : Bt} (h : checkB b = 0) (s : Int) : 0 ≤ (endsI b s).lo ∧ (endsI b s).lo ≤ (endsI b s).hi ∧ (endsI b s).hi ≤ 50 := by
  have := ends_range h s
  have := right_n (check_ok h).1
  omega
end Go.Proofs.Ytihgkeokhfmccaa
