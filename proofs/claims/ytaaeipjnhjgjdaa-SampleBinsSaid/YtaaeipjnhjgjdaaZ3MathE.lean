/- Weights, ends, means and samples in turn: what holds of them beside the reference. No program is named here. -/
import Derived.Test.YtaaeipjnhjgjdaaZ3MathD
namespace Go.Proofs.Ytaaeipjnhjgjdaa

/-! All samples of a size. -/
def inW (x : K3) (size i : Int) (k : Nat) : Int := waysI x ⟨i, k, size - i - k⟩
def outW (x : K3) (size : Int) (i : Nat) : Int := sumI (inW x size i) (size - i + 1).toNat
theorem outW_eq {a b c s i : Nat} (hi : i ≤ s) : outW ⟨a, b, c⟩ s i = ((Cb a i * Cb (b + c) (s - i) : Nat) : Int) := by
  unfold outW
  rw [show ((s : Int) - i + 1).toNat = s - i + 1 by omega, ← vandermonde b c (s - i), ← sumN_mul, ← sumI_cast]
  refine sumI_congr fun k hk => ?_
  unfold inW waysI chooseI
  simp only [Int.toNat_natCast, Int.natCast_mul]
  rw [show ((s : Int) - i - k).toNat = s - i - k by omega, Int.mul_assoc]
theorem ways_add {x : K3} {size : Int} (h : 0 ≤ x.a ∧ 0 ≤ x.b ∧ 0 ≤ x.c) (hs : 0 ≤ size) : sumI (outW x size) (size + 1).toNat = chooseI (x.a + x.b + x.c) size := by
  obtain ⟨a, b, c⟩ := x
  obtain ⟨h1, h2, h3⟩ := h
  obtain ⟨a, rfl⟩ := Int.eq_ofNat_of_zero_le h1
  obtain ⟨b, rfl⟩ := Int.eq_ofNat_of_zero_le h2
  obtain ⟨c, rfl⟩ := Int.eq_ofNat_of_zero_le h3
  obtain ⟨s, rfl⟩ := Int.eq_ofNat_of_zero_le hs
  rw [show ((s : Int) + 1).toNat = s + 1 by omega, sumI_congr (fun i hi => outW_eq (by omega)), sumI_cast, vandermonde]
  unfold chooseI
  rw [show ((a : Int) + b + c).toNat = a + (b + c) by omega, Int.toNat_natCast]
theorem inW_nonneg (x : K3) (size i : Int) (k : Nat) : 0 ≤ inW x size i k := waysI_nonneg _ _
theorem outW_nonneg (x : K3) (size : Int) (i : Nat) : 0 ≤ outW x size i := sumI_nonneg fun _ _ => inW_nonneg _ _ _ _
theorem ways_part {x : K3} {size : Int} (h : 0 ≤ x.a ∧ 0 ≤ x.b ∧ 0 ≤ x.c) (hs : 0 ≤ size) (hn : x.a + x.b + x.c ≤ 50) {i k : Nat} (hi : (i : Int) ≤ size) (hk : (k : Int) ≤ size - i + 1) :
    0 ≤ sumI (outW x size) i + sumI (inW x size i) k ∧ sumI (outW x size) i + sumI (inW x size i) k ≤ 126410606437752 := by
  have a1 := sumI_nonneg (f := outW x size) (n := i) fun _ _ => outW_nonneg _ _ _
  have a2 := sumI_nonneg (f := inW x size i) (n := k) fun _ _ => inW_nonneg _ _ _ _
  have b1 : sumI (inW x size i) k ≤ outW x size i := sumI_mono (by omega) fun _ _ => inW_nonneg _ _ _ _
  have b2 : sumI (outW x size) (i + 1) ≤ sumI (outW x size) (size + 1).toNat := sumI_mono (by omega) fun _ _ => outW_nonneg _ _ _
  rw [ways_add h hs, sumI] at b2
  have := chooseI_le (n := x.a + x.b + x.c) size hn
  omega
theorem ways_part0 {x : K3} {size : Int} (h : 0 ≤ x.a ∧ 0 ≤ x.b ∧ 0 ≤ x.c) (hs : 0 ≤ size) (hn : x.a + x.b + x.c ≤ 50) {i : Nat} (hi : (i : Int) ≤ size + 1) :
    0 ≤ sumI (outW x size) i ∧ sumI (outW x size) i ≤ 126410606437752 := by
  have a1 := sumI_nonneg (f := outW x size) (n := i) fun _ _ => outW_nonneg _ _ _
  have b2 : sumI (outW x size) i ≤ sumI (outW x size) (size + 1).toNat := sumI_mono (by omega) fun _ _ => outW_nonneg _ _ _
  rw [ways_add h hs] at b2
  have := chooseI_le (n := x.a + x.b + x.c) size hn
  omega
theorem chooseI_rest {n k : Int} (h0 : 0 ≤ k) (h : k ≤ n) : chooseI n (n - k) = chooseI n k := by
  unfold chooseI
  rw [show (n - k).toNat = n.toNat - k.toNat by omega, Cb_sym (by omega)]

/-! Ends: all wholes lie between them, and each is that of some whole. -/
theorem endsP_in {b : Bt} (h : checkB b = 0) (s : Int) : ∀ j, j ≤ (wholesL b).length → (∀ i x, i < j → (wholesL b)[i]? = some x → (endsP b s j).lo ≤ x.get s ∧ x.get s ≤ (endsP b s j).hi) ∧
    (∃ x ∈ wholesL b, x.get s = (endsP b s j).lo) ∧ (∃ x ∈ wholesL b, x.get s = (endsP b s j).hi) := by
  obtain ⟨hr, hw⟩ := check_ok h
  intro j
  induction j with
  | zero =>
    intro _
    refine ⟨fun i x hi => by omega, ?_⟩
    cases hl : wholesL b with
    | nil => exact absurd hl hw
    | cons x l =>
      simp only [endsP, hl, List.take_zero, List.foldl_nil, List.headD_cons]
      exact ⟨⟨x, by simp, rfl⟩, ⟨x, by simp, rfl⟩⟩
  | succ j ih =>
    intro hj
    have hx := List.getElem?_eq_getElem (show j < (wholesL b).length by omega)
    obtain ⟨h1, ⟨x1, m1, e1⟩, ⟨x2, m2, e2⟩⟩ := ih (by omega)
    have hm := List.getElem_mem (show j < (wholesL b).length by omega)
    rw [endsP_step hx]
    refine ⟨fun i x hi hix => ?_, ?_, ?_⟩
    · simp only
      rcases Nat.lt_or_ge i j with h2 | h2
      · have := h1 i x h2 hix
        omega
      · obtain rfl : i = j := by omega
        rw [hx] at hix
        cases hix
        omega
    · simp only
      rcases Int.le_total (endsP b s j).lo ((wholesL b)[j].get s) with h2 | h2
      · exact ⟨x1, m1, by omega⟩
      · exact ⟨_, hm, by omega⟩
    · simp only
      rcases Int.le_total (endsP b s j).hi ((wholesL b)[j].get s) with h2 | h2
      · exact ⟨_, hm, by omega⟩
      · exact ⟨x2, m2, by omega⟩
theorem ends_in {b : Bt} (h : checkB b = 0) (s : Int) {x : K3} (hx : x ∈ wholesL b) : (endsI b s).lo ≤ x.get s ∧ x.get s ≤ (endsI b s).hi := by
  obtain ⟨i, hi⟩ := List.getElem?_of_mem hx
  exact (endsP_in h s _ (Nat.le_refl _)).1 i x (List.getElem?_eq_some_iff.1 hi).1 hi
theorem ends_lo {b : Bt} (h : checkB b = 0) (s : Int) : ∃ x ∈ wholesL b, x.get s = (endsI b s).lo := (endsP_in h s _ (Nat.le_refl _)).2.1
theorem ends_hi {b : Bt} (h : checkB b = 0) (s : Int) : ∃ x ∈ wholesL b, x.get s = (endsI b s).hi := (endsP_in h s _ (Nat.le_refl _)).2.2
theorem ends_range {b : Bt} (h : checkB b = 0) (s : Int) : 0 ≤ (endsI b s).lo ∧ (endsI b s).lo ≤ (endsI b s).hi ∧ (endsI b s).hi ≤ b.n := by
  obtain ⟨x, hx, e⟩ := ends_lo h s
  obtain ⟨y, hy, e2⟩ := ends_hi h s
  have hn := right_n (check_ok h).1
  have := whole_get (by omega) hx s
  have := whole_get (by omega) hy s
  have := ends_in h s hx
  omega
theorem wAt_out {b : Bt} (h : checkB b = 0) (s : Int) {m : Nat} (hm : (m : Int) < (endsI b s).lo ∨ (endsI b s).hi < m) : wAt (wholesL b) b.s s m = 0 := by
  unfold wAt
  have e : sumL (fun w => if w.get s = (m : Int) then waysI w b.s else 0) (wholesL b) = sumL (fun _ => 0 * 0) (wholesL b) := sumL_congr fun w hw => by
    have := ends_in h s hw
    rw [if_neg (by omega)]; rfl
  rw [e, sumL_mul, Int.zero_mul]
theorem wAt_pos {b : Bt} (h : checkB b = 0) (s : Int) {x : K3} (hx : x ∈ wholesL b) {m : Nat} (hm : x.get s = m) : 1 ≤ wAt (wholesL b) b.s s m := by
  obtain ⟨l1, l2, e⟩ := List.append_of_mem hx
  unfold wAt
  have hw := ways_of (check_ok h).1 hx
  rw [e, sumL_append, sumL_cons, if_pos hm]
  have a1 := sumL_nonneg (f := fun w => if w.get s = (m : Int) then waysI w b.s else 0) (l := l1) fun w _ => by split; exact waysI_nonneg _ _; exact Int.le_refl _
  have a2 := sumL_nonneg (f := fun w => if w.get s = (m : Int) then waysI w b.s else 0) (l := l2) fun w _ => by split; exact waysI_nonneg _ _; exact Int.le_refl _
  omega

/-! Moments. -/
theorem wAt_mom {l : List K3} {s : K3} {sort : Int} {n : Nat} (h : ∀ w ∈ l, 0 ≤ w.get sort ∧ w.get sort < n) : sumI (fun i => (i : Int) * wAt l s sort i) n = sumL (fun w => w.get sort * waysI w s) l := by
  induction l with
  | nil => exact sumI_zero fun i _ => by simp [wAt, sumL]
  | cons x l ih =>
    have e : ∀ i : Nat, (i : Int) * wAt (x :: l) s sort i = (if x.get sort = (i : Int) then x.get sort * waysI x s else 0) + (i : Int) * wAt l s sort i := fun i => by
      unfold wAt
      rw [sumL_cons, Int.mul_add]
      congr 1
      split
      · rename_i h; rw [h]
      · simp
    rw [sumI_congr fun i _ => e i, sumI_add, ih (fun w hw => h w (by simp [hw])), sumL_cons]
    have hx := h x (by simp)
    congr 1
    rw [sumI_one (k := (x.get sort).toNat) (by omega) (fun i hi hne => by rw [if_neg (by omega)])]
    rw [if_pos (by omega)]
theorem mom_wholes {b : Bt} (h : rightB b = true) (s : Int) : momI (weightsL b s) 0 = sumL (fun w => w.get s * waysI w b.s) (wholesL b) := by
  have hn := right_n h
  unfold momI
  rw [weights_len, ← wAt_mom (n := b.n.toNat + 1) fun w hw => by have := whole_get (by omega) hw s; omega]
  refine sumI_congr fun i hi => ?_
  rw [weights_get b s (by omega), Int.sub_zero]
theorem mom_shift (l : List Int) (d : Int) : momI l d = momI l 0 - d * totalI l := by
  unfold momI
  rw [totalI_eq, ← sumI_mul, ← sumI_sub]
  refine sumI_congr fun i _ => ?_
  rw [Int.sub_zero, Int.sub_mul]
theorem mom_ends {b : Bt} (h : checkB b = 0) (s : Int) : (endsI b s).lo * totalI (weightsL b s) ≤ momI (weightsL b s) 0 ∧ momI (weightsL b s) 0 ≤ (endsI b s).hi * totalI (weightsL b s) := by
  have hr := (check_ok h).1
  have hn := right_n hr
  rw [mom_wholes hr, totalI_weights (by omega), ← sumL_mul, ← sumL_mul]
  exact ⟨sumL_le fun w hw => Int.mul_le_mul_of_nonneg_right (ends_in h s hw).1 (waysI_nonneg _ _), sumL_le fun w hw => Int.mul_le_mul_of_nonneg_right (ends_in h s hw).2 (waysI_nonneg _ _)⟩
theorem total_same {b : Bt} (h : rightB b = true) (s t : Int) : totalI (weightsL b s) = totalI (weightsL b t) := by
  have hn := right_n h
  rw [totalI_weights (by omega), totalI_weights (by omega)]
theorem mom_sum3 {b : Bt} (h : rightB b = true) : momI (weightsL b 0) 0 + momI (weightsL b 1) 0 + momI (weightsL b 2) 0 = b.n * totalI (weightsL b 0) := by
  have hn := right_n h
  rw [mom_wholes h, mom_wholes h, mom_wholes h, totalI_weights (by omega), ← sumL_mul, ← sumL_add, ← sumL_add]
  refine sumL_congr fun w hw => ?_
  have hs := ((mem_wholes (by omega)).1 hw).1
  have e0 : w.get 0 = w.a := rfl
  have e1 : w.get 1 = w.b := rfl
  have e2 : w.get 2 = w.c := rfl
  rw [e0, e1, e2, ← Int.add_mul, ← Int.add_mul, hs.2.2.2]

/-! Spans. -/
theorem span_all {b : Bt} (h : 0 ≤ b.n) (s : Int) : spanI (weightsL b s) ⟨0, b.n⟩ = totalI (weightsL b s) := by
  rw [totalI_eq, spanI_eq]
  refine sumI_congr fun i hi => ?_
  rw [weights_len] at hi
  unfold inSp
  rw [if_pos (by simp only; omega)]
theorem span_two (l : List Int) {lo mid : Int} (h : lo ≤ mid) : spanI l ⟨lo, mid + 1⟩ = spanI l ⟨lo, mid⟩ + spanI l ⟨mid + 1, mid + 1⟩ := by
  rw [spanI_eq, spanI_eq, spanI_eq, ← sumI_add]
  refine sumI_congr fun i _ => ?_
  unfold inSp
  simp only
  by_cases h1 : lo ≤ (i : Int) ∧ (i : Int) ≤ mid + 1
  · rw [if_pos h1]
    by_cases h2 : (i : Int) ≤ mid
    · rw [if_pos ⟨h1.1, h2⟩, if_neg (by omega)]; omega
    · rw [if_neg (by omega), if_pos (by omega)]; omega
  · rw [if_neg h1, if_neg (by omega), if_neg (by omega)]; rfl
theorem ratio_one {t : Int} (h : 0 < t) : ratioI t t = ⟨1, 1⟩ := by
  unfold ratioI gcdI
  rw [Nat.gcd_self, Int.toNat_of_nonneg (by omega), Int.ediv_self (by omega)]
theorem span_nonneg {l : List Int} (h : ∀ x ∈ l, 0 ≤ x) (s : Sp) : 0 ≤ spanI l s ∧ spanI l s ≤ totalI l := by
  rw [spanI_eq, totalI_eq]
  exact ⟨sumI_nonneg fun i _ => (inSp_le h i).1, sumI_le fun i _ => (inSp_le h i).2⟩
theorem span_more {T : Int} (hT : 0 < T) {A B : Int} (hA : 0 ≤ A) (hB : 0 ≤ B) :
    ((ratioI A T).num * (ratioI B T).den + (ratioI B T).num * (ratioI A T).den) * (ratioI (A + B) T).den = (ratioI (A + B) T).num * ((ratioI A T).den * (ratioI B T).den) := by
  obtain ⟨g1, p1, a1, b1, _⟩ := ratio_spec hA hT
  obtain ⟨g2, p2, a2, b2, _⟩ := ratio_spec hB hT
  obtain ⟨g3, p3, a3, b3, _⟩ := ratio_spec (Int.add_nonneg hA hB) hT
  generalize ratioI A T = x at *
  generalize ratioI B T = y at *
  generalize ratioI (A + B) T = z at *
  have e : (x.num * y.den + y.num * x.den) * T = (A + B) * (x.den * y.den) := by
    have e1 : x.num * T = A * x.den := by rw [a1, b1]; grind
    have e2 : y.num * T = B * y.den := by rw [a2, b2]; grind
    grind
  have e3 : (x.num * y.den + y.num * x.den) * z.den * g3 = z.num * (x.den * y.den) * g3 := by
    rw [Int.mul_assoc, ← b3, e, a3]; grind
  exact Int.eq_of_mul_eq_mul_right (by omega) e3

/-! Samples in turn. -/
theorem addB_comm (b : Bt) (s t : K3) : addB (addB b s) t = addB (addB b t) s := by
  unfold addB; simp only [Bt.mk.injEq, K3.mk.injEq, true_and, and_true]; omega
def plus3 (s t : K3) : K3 := ⟨s.a + t.a, s.b + t.b, s.c + t.c⟩
theorem addB_plus (b : Bt) (s t : K3) : addB (addB b s) t = addB b (plus3 s t) := by
  unfold addB plus3; simp only [Bt.mk.injEq, K3.mk.injEq, true_and, and_true]; omega
theorem more_ok {b : Bt} {s : K3} (h : moreE b s = 0) : checkB b = 0 ∧ sortedB s = true ∧ allI s ≤ b.n - allI b.s ∧ checkB (addB b s) = 0 := by
  unfold moreE at h
  by_cases h1 : checkB b ≠ 0
  · rw [if_pos h1] at h; exact absurd h h1
  · rw [if_neg h1] at h
    by_cases h2 : sortedB s = false
    · rw [if_pos h2] at h; omega
    · rw [if_neg h2] at h
      by_cases h3 : b.n - allI b.s < allI s
      · rw [if_pos h3] at h; omega
      · rw [if_neg h3] at h
        exact ⟨by omega, by simpa using h2, by omega, h⟩
theorem more_small {b : Bt} {s : K3} (h : moreE b s = 0) : 0 ≤ s.a ∧ 0 ≤ s.b ∧ 0 ≤ s.c ∧ s.a ≤ 50 ∧ s.b ≤ 50 ∧ s.c ≤ 50 := by
  obtain ⟨h1, h2, h3, h4⟩ := more_ok h
  have hn := right_n (check_ok h1).1
  simp only [sortedB, Bool.and_eq_true, decide_eq_true_eq] at h2
  have := allI_range hn.2.2.1
  unfold allI at h3 this
  omega
theorem more_turn {b : Bt} {one two : K3} (h1 : moreE b one = 0) (h2 : moreE b two = 0) : moreE (addB b one) two = moreE (addB b two) one ∧ moreE (addB b one) two = moreE b (plus3 one two) := by
  obtain ⟨a1, a2, a3, a4⟩ := more_ok h1
  obtain ⟨b1, b2, b3, b4⟩ := more_ok h2
  have s1 := more_small h1
  have s2 := more_small h2
  have n0 := right_n (check_ok a1).1
  have n1 := right_n (check_ok a4).1
  have n2 := right_n (check_ok b4).1
  have p1 : (plus3 one two).a = one.a + two.a := rfl
  have p2 : (plus3 one two).b = one.b + two.b := rfl
  have p3 : (plus3 one two).c = one.c + two.c := rfl
  have hp : sortedB (plus3 one two) = true := by
    simp only [sortedB, p1, p2, p3, Bool.and_eq_true, decide_eq_true_eq]
    exact ⟨⟨by omega, by omega⟩, by omega⟩
  have e1 : (addB b one).n = b.n := rfl
  have e2 : (addB b two).n = b.n := rfl
  have f1 : allI (addB b one).s = allI b.s + allI one := by
    have u1 := n1.2.2.2.2.2.2.1
    have u0 := n0.2.2.2.2.2.2.1
    have q1 : (addB b one).s.a = b.s.a + one.a := rfl
    have q2 : (addB b one).s.b = b.s.b + one.b := rfl
    have q3 : (addB b one).s.c = b.s.c + one.c := rfl
    rw [u1, u0, q1, q2, q3]
    unfold allI
    omega
  have f2 : allI (addB b two).s = allI b.s + allI two := by
    have u1 := n2.2.2.2.2.2.2.1
    have u0 := n0.2.2.2.2.2.2.1
    have q1 : (addB b two).s.a = b.s.a + two.a := rfl
    have q2 : (addB b two).s.b = b.s.b + two.b := rfl
    have q3 : (addB b two).s.c = b.s.c + two.c := rfl
    rw [u1, u0, q1, q2, q3]
    unfold allI
    omega
  have c1 : moreE (addB b one) two = if b.n - allI b.s - allI one < allI two then 3 else checkB (addB (addB b one) two) := by
    unfold moreE
    rw [if_neg (by omega), if_neg (by simp [b2]), e1, f1]
    congr 1
    exact propext ⟨fun h => by omega, fun h => by omega⟩
  have c2 : moreE (addB b two) one = if b.n - allI b.s - allI one < allI two then 3 else checkB (addB (addB b one) two) := by
    unfold moreE
    rw [if_neg (by omega), if_neg (by simp [a2]), e2, f2, addB_comm]
    congr 1
    exact propext ⟨fun h => by omega, fun h => by omega⟩
  have c3 : moreE b (plus3 one two) = if b.n - allI b.s - allI one < allI two then 3 else checkB (addB (addB b one) two) := by
    unfold moreE
    rw [if_neg (by omega), if_neg (by simp [hp]), ← addB_plus]
    congr 1
    have := n0.2.2.2.2.2.2.1
    refine propext ⟨fun h => ?_, fun h => ?_⟩
    · rw [show allI (plus3 one two) = min (one.a + two.a) 51 + min (one.b + two.b) 51 + min (one.c + two.c) 51 from rfl] at h
      have : allI one = min one.a 51 + min one.b 51 + min one.c 51 := rfl
      have : allI two = min two.a 51 + min two.b 51 + min two.c 51 := rfl
      have : 0 ≤ allI b.s := by omega
      clear f1 f2 c1 c2
      omega
    · rw [show allI (plus3 one two) = min (one.a + two.a) 51 + min (one.b + two.b) 51 + min (one.c + two.c) 51 from rfl]
      have : allI one = min one.a 51 + min one.b 51 + min one.c 51 := rfl
      have : allI two = min two.a 51 + min two.b 51 + min two.c 51 := rfl
      have : 0 ≤ allI b.s := by omega
      clear f1 f2 c1 c2
      omega
  exact ⟨c1.trans c2.symm, c1.trans c3.symm⟩
theorem triples_nodup (n i : Nat) : (triples n i).Nodup := by
  unfold triples List.Nodup
  rw [List.pairwise_flatMap]
  refine ⟨fun a _ => ?_, ?_⟩
  · unfold rowW
    rw [List.pairwise_map]
    refine List.pairwise_lt_range.imp fun {x y} hxy he => ?_
    simp only [K3.mk.injEq] at he
    omega
  · refine List.pairwise_lt_range.imp fun {a b} hab x hx y hy he => ?_
    obtain ⟨_, _, rfl⟩ := List.mem_map.1 hx
    obtain ⟨_, _, rfl⟩ := List.mem_map.1 hy
    simp only [K3.mk.injEq] at he
    omega
/-- A batch of which all was seen has this whole alone. -/
theorem wholes_seen {b : Bt} (h : checkB b = 0) (ha : b.n ≤ b.s.a + b.s.b + b.s.c) : wholesL b = [b.s] := by
  obtain ⟨hr, hw⟩ := check_ok h
  have hn := right_n hr
  have all : ∀ w ∈ wholesL b, w = b.s := fun w hm => by
    obtain ⟨h1, h2⟩ := (mem_wholes (by omega)).1 hm
    have h3 := okW_seen h2
    cases w
    generalize b.s = S at *
    cases S
    simp only [K3.mk.injEq] at *
    omega
  have nd : (wholesL b).Nodup := List.Pairwise.filter _ (triples_nodup _ _)
  match hl : wholesL b, hw, all, nd with
  | [x], _, all, _ => rw [all x (by simp)]
  | x :: y :: l, _, all, nd =>
    have h1 := all x (by simp)
    have h2 := all y (by simp)
    have h3 := (List.pairwise_cons.1 nd).1 y (by simp)
    exact absurd (h1.trans h2.symm) h3
end Go.Proofs.Ytaaeipjnhjgjdaa
