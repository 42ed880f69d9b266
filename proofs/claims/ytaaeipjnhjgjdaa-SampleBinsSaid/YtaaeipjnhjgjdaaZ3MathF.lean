/- What the calls answer when they answer: their answers, opened. No program is named here. -/
import Derived.Test.YtaaeipjnhjgjdaaZ3MathE
namespace Go.Proofs.Ytaaeipjnhjgjdaa

theorem inI_iff {n lo hi : Int} : inI n lo hi = true ↔ lo ≤ n ∧ n ≤ hi := by simp [inI]
theorem pass_in {n m : Int} {p : Tr} (h : (passR n m p).2 = 0) : (1 ≤ n ∧ n ≤ 50) ∧ (0 ≤ m ∧ m ≤ n) ∧ (0 ≤ p.sample ∧ p.sample ≤ n) ∧ (0 ≤ p.accept ∧ p.accept ≤ p.sample) := by
  unfold passR at h
  by_cases hc : (inI n 1 50 && inI m 0 n && inI p.sample 0 n && inI p.accept 0 p.sample) = true
  · simp only [Bool.and_eq_true, inI_iff] at hc
    omega
  · rw [if_neg hc] at h; simp at h
theorem passR_ok {n m : Int} {p : Tr} (h : (passR n m p).2 = 0) : passR n m p = (ratioI (atMostI n m p.sample p.accept) (chooseI n p.sample), 0) := by
  unfold passR at h ⊢
  by_cases hc : (inI n 1 50 && inI m 0 n && inI p.sample 0 n && inI p.accept 0 p.sample) = true
  · rw [if_pos hc]
  · rw [if_neg hc] at h; simp at h
theorem passR_of {n m : Int} {p : Tr} (h1 : 1 ≤ n ∧ n ≤ 50) (h2 : 0 ≤ m ∧ m ≤ n) (h3 : 0 ≤ p.sample ∧ p.sample ≤ n) (h4 : 0 ≤ p.accept ∧ p.accept ≤ p.sample) : passR n m p = (ratioI (atMostI n m p.sample p.accept) (chooseI n p.sample), 0) := by
  unfold passR
  rw [if_pos]
  simp only [Bool.and_eq_true, inI_iff]
  exact ⟨⟨⟨h1, h2⟩, h3⟩, h4⟩
theorem atMostR_ok {n m t k : Int} (h1 : 1 ≤ n ∧ n ≤ 50) (h2 : 0 ≤ m ∧ m ≤ n) (h3 : 0 ≤ t ∧ t ≤ n) (h4 : 0 ≤ k) : atMostR n m t k = (atMostI n m t k, 0) := by
  unfold atMostR
  rw [if_pos]
  simp only [Bool.and_eq_true, inI_iff, decide_eq_true_eq]
  exact ⟨⟨⟨h1, h2⟩, h3⟩, h4⟩
theorem atMostR_bad {n m t k : Int} (h : ¬ (1 ≤ n ∧ n ≤ 50 ∧ 0 ≤ m ∧ m ≤ n ∧ 0 ≤ t ∧ t ≤ n ∧ 0 ≤ k)) : atMostR n m t k = (0, 1) := by
  unfold atMostR
  rw [if_neg]
  simp only [Bool.and_eq_true, inI_iff, decide_eq_true_eq]
  omega
theorem chooseR_ok {n k : Int} (h0 : 0 ≤ n) (h1 : n ≤ 50) (h2 : 0 ≤ k) : chooseR n k = (chooseI n k, 0) := by
  unfold chooseR
  rw [if_pos]
  simp only [Bool.and_eq_true, inI_iff, decide_eq_true_eq]
  omega
theorem ask_in {n t k : Int} {r : Rt} (h : askB n t k r = true) : (1 ≤ n ∧ n ≤ 50) ∧ (0 ≤ t ∧ t ≤ n) ∧ (0 ≤ k ∧ k ≤ t) ∧ levelB r = true := by
  unfold askB at h
  simp only [Bool.and_eq_true, inI_iff] at h
  exact ⟨h.1.1.1, h.1.1.2, h.1.2, h.2⟩
theorem upperR_ok {n t k : Int} {r : Rt} (h : askB n t k r = true) : upperR n t k r = (upperI n t k r n.toNat, 0) := by unfold upperR; rw [if_pos h]
theorem lowerR_ok {n t k : Int} {r : Rt} (h : askB n t k r = true) : lowerR n t k r = (lowerI n.toNat t k r n.toNat, 0) := by unfold lowerR; rw [if_pos h]
theorem upperR_bad {n t k : Int} {r : Rt} (h : askB n t k r = false) : upperR n t k r = (0, 1) := by unfold upperR; rw [if_neg (by simp [h])]
theorem lowerR_bad {n t k : Int} {r : Rt} (h : askB n t k r = false) : lowerR n t k r = (0, 1) := by unfold lowerR; rw [if_neg (by simp [h])]
theorem atMost_no {n m t k : Int} (hk : k < 0) : atMostI n m t k = 0 := by
  unfold atMostI
  rw [show (min t k + 1).toNat = 0 by omega]; rfl
theorem more_snd (b : Bt) (s : K3) : (moreR b s).2 = moreE b s := by
  unfold moreR
  split
  · rename_i h; exact h.symm
  · rfl
theorem more_good {b : Bt} {s : K3} (h : moreE b s = 0) : moreR b s = (addB b s, 0) := by unfold moreR; rw [if_pos h]
theorem more_both {b : Bt} {one two : K3} (h1 : moreE b one = 0) (h2 : moreE b two = 0) : moreR (addB b one) two = moreR (addB b two) one ∧ moreR (addB b one) two = moreR b (plus3 one two) := by
  obtain ⟨e1, e2⟩ := more_turn h1 h2
  refine ⟨?_, ?_⟩
  · unfold moreR; rw [e1, addB_comm]
  · unfold moreR; rw [e2, addB_plus]
theorem check_short {b : Bt} {s : Int} {r : Rt} {p : Sp} (h : shortestR b s r = (p, 0)) : checkShortI b s r p = 0 := by
  unfold checkShortI
  rw [h]
  simp
/-- The sums of the first weights: of all, and of those in a span. -/
def allQ (l : List Int) (j : Nat) : Int := sumI (fun i => l.getD i 0) j
def inQ (l : List Int) (s : Sp) (j : Nat) : Int := sumI (inSp l s) j
theorem allQ_step {l : List Int} {j : Nat} {x : Int} (h : l[j]? = some x) : allQ l (j + 1) = allQ l j + x := by
  unfold allQ; rw [sumI, List.getD_eq_getElem?_getD, h]; rfl
theorem inQ_yes {l : List Int} {s : Sp} {j : Nat} {x : Int} (h : l[j]? = some x) (h1 : s.lo ≤ j) (h2 : (j : Int) ≤ s.hi) : inQ l s (j + 1) = inQ l s j + x := by
  unfold inQ; rw [sumI]; unfold inSp; rw [if_pos ⟨h1, h2⟩, List.getD_eq_getElem?_getD, h]; rfl
theorem inQ_no {l : List Int} {s : Sp} {j : Nat} (h : ¬ (s.lo ≤ j ∧ (j : Int) ≤ s.hi)) : inQ l s (j + 1) = inQ l s j := by
  unfold inQ; rw [sumI]; unfold inSp; rw [if_neg h]; omega
theorem allQ_le {l : List Int} (h : ∀ x ∈ l, 0 ≤ x) {j : Nat} (hj : j ≤ l.length) : 0 ≤ allQ l j ∧ allQ l j ≤ totalI l := by
  rw [totalI_eq]
  have hn : ∀ i, 0 ≤ l.getD i 0 := getD_nonneg h
  exact ⟨sumI_nonneg fun i _ => hn i, sumI_mono hj fun i _ => hn i⟩
theorem inQ_le {l : List Int} {s : Sp} (h : ∀ x ∈ l, 0 ≤ x) {j : Nat} (hj : j ≤ l.length) : 0 ≤ inQ l s j ∧ inQ l s j ≤ totalI l := by
  have := spanP_le (s := s) h hj
  rw [totalI_eq]
  exact this
theorem allQ_end (l : List Int) : allQ l l.length = totalI l := (totalI_eq l).symm
theorem inQ_end (l : List Int) (s : Sp) : inQ l s l.length = spanI l s := (spanI_eq l s).symm
theorem chooseI_20 {n : Int} (h : n ≤ 20) (k : Int) : chooseI n k ≤ 184756 := by
  have h1 := Cb_le (n := n.toNat) (m := 20) (by omega) k.toNat
  have h2 : Cb 20 k.toNat ≤ 184756 := by
    rcases Nat.lt_or_ge 20 k.toNat with h | h
    · rw [Cb_gt h]; omega
    · have h1 : ∀ x ∈ rowN 20, x ≤ 184756 := by decide
      exact h1 _ (List.mem_of_getElem? (rowN_get 20 k.toNat h))
  unfold chooseI
  omega
theorem small_in {n g m : Int} {a r : Rt} (h : smallB n g m a r = true) (hn : ¬ n > 20) : (1 ≤ n ∧ n ≤ 20) ∧ (0 ≤ g ∧ g ≤ n) ∧ (0 ≤ m ∧ m ≤ n) ∧ g < m ∧ levelB a = true ∧ levelB r = true := by
  unfold smallB at h
  simp only [Bool.and_eq_true, Bool.not_eq_true', inI_iff, decide_eq_false_iff_not] at h
  obtain ⟨⟨⟨⟨⟨h1, h2⟩, h3⟩, h4⟩, h5⟩, h6⟩ := h
  exact ⟨by omega, by omega, by omega, by omega, h5, h6⟩
/-- The first weights, each times its number. -/
def momQ (l : List Int) (j : Nat) : Int := sumI (fun i => (i : Int) * l.getD i 0) j
theorem momQ_step {l : List Int} {j : Nat} {x : Int} (h : l[j]? = some x) : momQ l (j + 1) = momQ l j + j * x := by
  unfold momQ; rw [sumI, List.getD_eq_getElem?_getD, h]; rfl
theorem momQ_end (l : List Int) : momQ l l.length = momI l 0 := by
  unfold momQ momI
  exact sumI_congr fun i _ => by rw [Int.sub_zero]
theorem sumI_le' {f g : Nat → Int} : ∀ {n : Nat}, (∀ i, i < n → f i ≤ g i) → sumI f n ≤ sumI g n := sumI_le
theorem momQ_le {l : List Int} (h : ∀ x ∈ l, 0 ≤ x) (hl : l.length ≤ 51) {j : Nat} (hj : j ≤ l.length) : 0 ≤ momQ l j ∧ momQ l j ≤ 50 * totalI l := by
  have hn : ∀ i, 0 ≤ l.getD i 0 := getD_nonneg h
  refine ⟨sumI_nonneg fun i _ => Int.mul_nonneg (by omega) (hn i), ?_⟩
  have a : momQ l j ≤ sumI (fun i => 50 * l.getD i 0) j := sumI_le' fun i hi => Int.mul_le_mul_of_nonneg_right (by omega) (hn i)
  rw [sumI_mul] at a
  have b := (allQ_le h hj).2
  have c : 50 * sumI (fun i => l.getD i 0) j ≤ 50 * totalI l := by unfold allQ at b; omega
  exact Int.le_trans a c
theorem kind_sort {b : Bt} (h : checkB b = 0) {s : Int} (h0 : 0 ≤ s) (h2 : s ≤ 2) : kindI b s = 0 := by
  unfold kindI
  rw [if_neg (by omega), if_pos (inI_iff.2 ⟨h0, h2⟩)]
theorem meanR_ok {b : Bt} {s : Int} (h : kindI b s = 0) : meanR b s = (ratioI (momI (weightsL b s) 0) (totalI (weightsL b s)), 0) := by unfold meanR; rw [if_neg (by omega)]
theorem endsR_ok {b : Bt} {s : Int} (h : kindI b s = 0) : endsR b s = (endsI b s, 0) := by unfold endsR; rw [if_pos h]
theorem nextR_ok {b : Bt} {s : Int} (h : kindI b s = 0) (hl : b.n - allI b.s ≠ 0) : nextR b s = (ratioI (momI (weightsL b s) (b.s.get s)) ((b.n - allI b.s) * totalI (weightsL b s)), 0) := by unfold nextR; rw [if_neg (by omega), if_neg hl]
theorem nextR_no {b : Bt} {s : Int} (h : kindI b s = 0) (hl : b.n - allI b.s = 0) : nextR b s = (⟨0, 0⟩, 5) := by unfold nextR; rw [if_neg (by omega), if_pos hl]
/-- A fraction in lowest terms, told by its parts. -/
theorem ratio_parts {x c : Int} (hx : 0 ≤ x) (hc : 0 < c) : 1 ≤ (ratioI x c).den ∧ (ratioI x c).den ≤ c ∧ 0 ≤ (ratioI x c).num ∧ (ratioI x c).num ≤ x ∧ c.tmod (ratioI x c).den = 0 ∧ c.tdiv (ratioI x c).den * (ratioI x c).num = x ∧ 0 ≤ c.tdiv (ratioI x c).den ∧ c.tdiv (ratioI x c).den ≤ c := by
  obtain ⟨g, g1, g2, g3, g4, g5, g6, g7⟩ := ratio_spec hx hc
  have e : c.tdiv (ratioI x c).den = g := by
    rw [Int.tdiv_eq_ediv_of_nonneg (by omega)]
    exact Int.ediv_eq_of_eq_mul_right (by omega) g3
  refine ⟨by omega, g7, g5, g6, ?_, ?_, by omega, ?_⟩
  · rw [Int.tmod_eq_emod_of_nonneg (by omega)]
    exact Int.emod_eq_zero_of_dvd ⟨g, g3⟩
  · rw [e, Int.mul_comm]; exact g2.symm
  · rw [e]
    have := Int.mul_le_mul_of_nonneg_right (show 1 ≤ (ratioI x c).den by omega) (show 0 ≤ g by omega)
    omega
theorem believed_ok {b : Bt} {s : Int} {p : Sp} (h : kindI b s = 0) (hp : p.lo ≤ p.hi) : believedR b s p = (ratioI (spanI (weightsL b s) p) (totalI (weightsL b s)), 0) := by
  unfold believedR
  rw [if_neg (by omega), if_neg (by omega)]
theorem endsR_no {b : Bt} {s : Int} (h : kindI b s ≠ 0) : endsR b s = (⟨0, 0⟩, kindI b s) := by unfold endsR; rw [if_neg h]
theorem weights_at {b : Bt} {s : Int} {k : Nat} {x : Int} (h : (weightsL b s)[k]? = some x) : x = wAt (wholesL b) b.s s k := by
  have hk := (List.getElem?_eq_some_iff.1 h).1
  rw [weights_len] at hk
  have := weights_get b s (i := k) (by omega)
  rw [List.getD_eq_getElem?_getD, h] at this
  exact this
theorem weights_have {b : Bt} {s : Int} {k : Nat} (h : (k : Int) ≤ b.n) (hn : 0 ≤ b.n) : (weightsL b s)[k]? = some (wAt (wholesL b) b.s s k) := by
  unfold weightsL
  rw [List.getElem?_map, List.getElem?_range (by omega)]
  rfl
/-- The ends of a sort as numbers, and what the weights are at and outside of them. -/
theorem ends_weights {b : Bt} (h : checkB b = 0) (s : Int) : ∃ p q : Nat, endsI b s = ⟨p, q⟩ ∧ p ≤ q ∧ (q : Int) ≤ b.n ∧ (∃ x, (weightsL b s)[p]? = some x ∧ 1 ≤ x) ∧ (∃ x, (weightsL b s)[q]? = some x ∧ 1 ≤ x) ∧
    ∀ (k : Nat) (x : Int), (weightsL b s)[k]? = some x → (k < p ∨ q < k) → x = 0 := by
  have er := ends_range h s
  have nn := right_n (check_ok h).1
  obtain ⟨x, hx, ex⟩ := ends_lo h s
  obtain ⟨y, hy, ey⟩ := ends_hi h s
  obtain ⟨p, hp⟩ := Int.eq_ofNat_of_zero_le er.1
  obtain ⟨q, hq⟩ := Int.eq_ofNat_of_zero_le (show 0 ≤ (endsI b s).hi by omega)
  refine ⟨p, q, by rw [← hp, ← hq], by omega, by omega, ⟨_, weights_have (by omega) (by omega), wAt_pos h s hx (by omega)⟩, ⟨_, weights_have (by omega) (by omega), wAt_pos h s hy (by omega)⟩, fun k v hv hk => ?_⟩
  rw [weights_at hv]
  exact wAt_out h s (by omega)
end Go.Proofs.Ytaaeipjnhjgjdaa
