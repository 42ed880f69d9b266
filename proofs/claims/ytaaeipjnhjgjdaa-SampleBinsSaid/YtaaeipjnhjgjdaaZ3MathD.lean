/- Plans, levels and samples: what holds of them beside the reference (more bad barrows, greater levels, samples in turn). No program is named here. -/
import Derived.Test.YtaaeipjnhjgjdaaJ1
namespace Go.Proofs.Ytaaeipjnhjgjdaa

/-- What a fraction in lowest terms is. -/
theorem ratio_spec {x c : Int} (hx : 0 ≤ x) (hc : 0 < c) : ∃ g : Int, 0 < g ∧ x = (ratioI x c).num * g ∧ c = (ratioI x c).den * g ∧ 0 < (ratioI x c).den ∧ 0 ≤ (ratioI x c).num ∧ (ratioI x c).num ≤ x ∧ (ratioI x c).den ≤ c := by
  have hg : 0 < gcdI x c := by
    unfold gcdI
    have := Nat.gcd_pos_of_pos_right x.toNat (n := c.toNat) (by omega)
    omega
  have h1 : gcdI x c ∣ x := by
    unfold gcdI
    have := Nat.gcd_dvd_left x.toNat c.toNat
    have h2 := Int.natCast_dvd_natCast.2 this
    rwa [Int.toNat_of_nonneg hx] at h2
  have h2 : gcdI x c ∣ c := by
    unfold gcdI
    have := Nat.gcd_dvd_right x.toNat c.toNat
    have h2 := Int.natCast_dvd_natCast.2 this
    rwa [Int.toNat_of_nonneg (by omega : 0 ≤ c)] at h2
  have e1 : x = x / gcdI x c * gcdI x c := (Int.ediv_mul_cancel h1).symm
  have e2 : c = c / gcdI x c * gcdI x c := (Int.ediv_mul_cancel h2).symm
  have n1 : 0 ≤ x / gcdI x c := Int.ediv_nonneg hx (by omega)
  have n2 : 0 ≤ c / gcdI x c := Int.ediv_nonneg (by omega) (by omega)
  refine ⟨gcdI x c, hg, e1, e2, ?_, n1, ?_, ?_⟩
  · show 0 < c / gcdI x c
    rcases Int.lt_or_le 0 (c / gcdI x c) with h | h
    · exact h
    · have : c / gcdI x c = 0 := by omega
      rw [this] at e2; omega
  · exact Int.ediv_le_self _ hx
  · exact Int.ediv_le_self _ (by omega)

/-- With one more bad barrow fewer samples have few bad ones. -/
theorem bad_more (N m t : Nat) : ∀ j, j < t → sumN (fun i => Cb (m + 1) i * Cb N (t - i)) (j + 1) + Cb m j * Cb N (t - (j + 1)) = sumN (fun i => Cb m i * Cb (N + 1) (t - i)) (j + 1)
  | 0, h => by
    obtain ⟨t, rfl⟩ : ∃ u, t = u + 1 := ⟨t - 1, by omega⟩
    simp only [sumN, Cb_zero, Nat.sub_zero, Nat.zero_add, Nat.one_mul, Nat.add_sub_cancel, Cb_succ N t]
    omega
  | j + 1, h => by
    have ih := bad_more N m t j (by omega)
    show sumN (fun i => Cb (m + 1) i * Cb N (t - i)) (j + 1) + Cb (m + 1) (j + 1) * Cb N (t - (j + 1)) + Cb m (j + 1) * Cb N (t - (j + 1 + 1)) = sumN (fun i => Cb m i * Cb (N + 1) (t - i)) (j + 1) + Cb m (j + 1) * Cb (N + 1) (t - (j + 1))
    rw [← ih]
    have e : t - (j + 1) = (t - (j + 1 + 1)) + 1 := by omega
    rw [Cb_succ m j, e, Cb_succ N]
    generalize Cb N (t - (j + 1 + 1)) = A
    generalize Cb N (t - (j + 1 + 1) + 1) = B
    rw [Nat.add_mul, Nat.mul_add]
    omega
theorem atMost_bad {n m t k : Int} (h0 : 0 ≤ m) (h1 : m < n) (ht : 0 ≤ t) : atMostI n (m + 1) t k ≤ atMostI n m t k := by
  obtain ⟨m, rfl⟩ := Int.eq_ofNat_of_zero_le h0
  obtain ⟨t, rfl⟩ := Int.eq_ofNat_of_zero_le ht
  obtain ⟨n, rfl⟩ := Int.eq_ofNat_of_zero_le (by omega : 0 ≤ n)
  obtain ⟨N, rfl⟩ : ∃ N, n = m + N + 1 := ⟨n - m - 1, by omega⟩
  unfold atMostI
  generalize hJ : (min (t : Int) k + 1).toNat = J
  have hJt : J ≤ t + 1 := by omega
  have e1 : ∀ i, i < J → hit ((m + N + 1 : Nat) : Int) ((m : Int) + 1) t i = ((Cb (m + 1) i * Cb N (t - i) : Nat) : Int) := fun i hi => by
    have := hit_nat (n := m + N + 1) (m := m + 1) (t := t) (by omega) (i := i) (by omega)
    rw [show m + N + 1 - (m + 1) = N by omega] at this
    rw [← this]; congr 1
  have e2 : ∀ i, i < J → hit ((m + N + 1 : Nat) : Int) (m : Int) t i = ((Cb m i * Cb (N + 1) (t - i) : Nat) : Int) := fun i hi => by
    have := hit_nat (n := m + N + 1) (m := m) (t := t) (by omega) (i := i) (by omega)
    rw [show m + N + 1 - m = N + 1 by omega] at this
    rw [← this]
  rw [sumI_congr e1, sumI_congr e2, sumI_cast, sumI_cast]
  cases J with
  | zero => simp [sumN]
  | succ j =>
    rcases Nat.lt_or_ge j t with h | h
    · have := bad_more N m t j h
      omega
    · obtain rfl : j = t := by omega
      have a := vandermonde (m + 1) N j
      have b := vandermonde m (N + 1) j
      rw [a, b, show m + 1 + N = m + (N + 1) by omega]
      exact Int.le_refl _

theorem sumI_cut (f : Nat → Int) {n k : Nat} (h : k ≤ n) : sumI (fun i => if i < k then f i else 0) n = sumI f k := by
  induction n with
  | zero => obtain rfl : k = 0 := by omega
            rfl
  | succ n ih =>
    rw [sumI]
    rcases Nat.lt_or_ge n k with h2 | h2
    · obtain rfl : k = n + 1 := by omega
      rw [if_pos (by omega), sumI]
      congr 1
      exact sumI_congr fun i hi => by rw [if_pos (by omega)]
    · rw [ih (by omega), if_neg (by omega)]; omega
/-- A second sample of no barrows changes nothing. -/
theorem twice_same {n m : Int} {p : Tr} (h : (passR n m p).2 = 0) (hn : n ≤ 36) : twiceR n m ⟨p.sample, p.accept, p.sample + 1, 0, p.accept⟩ = passR n m p := by
  unfold passR at h ⊢
  by_cases hc : (inI n 1 50 && inI m 0 n && inI p.sample 0 n && inI p.accept 0 p.sample) = true
  · rw [if_pos hc]
    simp only [inI, Bool.and_eq_true, decide_eq_true_eq] at hc
    unfold twiceR
    rw [if_pos (by simp [twiceB, inI]; omega)]
    have e1 : chooseI (n - p.sample) 0 = 1 := by unfold chooseI; rw [show (0 : Int).toNat = 0 from rfl, Cb_zero]; rfl
    simp only [e1, Int.mul_one]
    have e2 : sumI (twT n m ⟨p.sample, p.accept, p.sample + 1, 0, p.accept⟩) (p.sample + 1).toNat = atMostI n m p.sample p.accept := by
      unfold atMostI
      rw [← sumI_cut (hit n m p.sample) (n := (p.sample + 1).toNat) (k := (min p.sample p.accept + 1).toNat) (by omega)]
      refine sumI_congr fun i hi => ?_
      unfold twT
      simp only [e1, Int.mul_one]
      split
      · rename_i h0; rw [h0]; simp
      · rw [if_neg (by omega)]
        by_cases hk : (i : Int) ≤ p.accept
        · rw [if_pos hk, if_pos (by omega)]
        · rw [if_neg hk, if_neg hk, if_neg (by omega)]
    rw [e2]
  · rw [if_neg hc] at h; simp at h

theorem mul_le_mul' {a b c : Int} (h : a ≤ b) (hc : 0 ≤ c) : a * c ≤ b * c := Int.mul_le_mul_of_nonneg_right h hc
/-- What is enough for a level is enough for a lesser one. -/
theorem level_le {x c : Int} {one two : Rt} (hc : 0 ≤ c) (h1 : levelB one = true) (h2 : levelB two = true) (hle : one.num * two.den ≤ two.num * one.den) (h : c * two.num ≤ x * two.den) : c * one.num ≤ x * one.den := by
  have l1 := level_ok h1
  have l2 := level_ok h2
  have a := Int.mul_le_mul_of_nonneg_left hle hc
  have b := Int.mul_le_mul_of_nonneg_right h (by omega : 0 ≤ one.den)
  have c1 : c * one.num * two.den ≤ x * one.den * two.den := by grind
  exact Int.le_of_mul_le_mul_right c1 (by omega)
theorem upper_range (n t k : Int) (r : Rt) : ∀ i : Nat, 0 ≤ upperI n t k r i ∧ upperI n t k r i ≤ i
  | 0 => by simp [upperI]
  | i + 1 => by
    have := upper_range n t k r i
    unfold upperI
    split <;> omega
theorem upper_ge {n t k : Int} {r : Rt} {m : Nat} (h : chooseI n t * r.num ≤ atMostI n m t k * r.den) : ∀ i : Nat, m ≤ i → (m : Int) ≤ upperI n t k r i
  | 0, hm => by obtain rfl : m = 0 := by omega
                simp [upperI]
  | i + 1, hm => by
    unfold upperI
    split
    · omega
    · rename_i hn
      rcases Nat.lt_or_ge i m with h2 | h2
      · obtain rfl : m = i + 1 := by omega
        exact absurd h hn
      · exact upper_ge h i h2
theorem upper_at {n t k : Int} {r : Rt} : ∀ i : Nat, upperI n t k r i = 0 ∨ chooseI n t * r.num ≤ atMostI n (upperI n t k r i) t k * r.den
  | 0 => .inl rfl
  | i + 1 => by
    unfold upperI
    split
    · rename_i h; exact .inr h
    · exact upper_at i
theorem upper_mono {n t k : Int} {one two : Rt} (h1 : levelB one = true) (h2 : levelB two = true) (hle : one.num * two.den ≤ two.num * one.den) (i : Nat) : upperI n t k two i ≤ upperI n t k one i := by
  rcases upper_at (n := n) (t := t) (k := k) (r := two) i with h | h
  · have := (upper_range n t k one i).1; omega
  · have hr := upper_range n t k two i
    have h' := level_le (chooseI_nonneg n t) h1 h2 hle h
    have e : ((upperI n t k two i).toNat : Int) = upperI n t k two i := by omega
    rw [← e] at h'
    have := upper_ge h' i (by omega)
    omega
theorem lower_range (n : Nat) (t k : Int) (r : Rt) : ∀ i : Nat, i ≤ n → (n : Int) - i ≤ lowerI n t k r i ∧ lowerI n t k r i ≤ n
  | 0, _ => by simp [lowerI]
  | i + 1, h => by
    have := lower_range n t k r i (by omega)
    unfold lowerI
    split <;> omega
theorem lower_le {n : Nat} {t k : Int} {r : Rt} {m : Int} (hmn : m ≤ n) (h : chooseI n t * r.num ≤ (chooseI n t - atMostI n m t (k - 1)) * r.den) : ∀ i : Nat, (n : Int) - i ≤ m → lowerI n t k r i ≤ m
  | 0, hm => by obtain rfl : m = n := by omega
                simp [lowerI]
  | i + 1, hm => by
    unfold lowerI
    split
    · omega
    · rename_i hn
      rcases Int.lt_or_le m ((n : Int) - i) with h2 | h2
      · obtain rfl : m = (n : Int) - (i + 1 : Nat) := by omega
        exact absurd h hn
      · exact lower_le hmn h i h2
theorem lower_at {n : Nat} {t k : Int} {r : Rt} : ∀ i : Nat, lowerI n t k r i = n ∨ chooseI n t * r.num ≤ (chooseI n t - atMostI n (lowerI n t k r i) t (k - 1)) * r.den
  | 0 => .inl rfl
  | i + 1 => by
    unfold lowerI
    split
    · rename_i h; exact .inr h
    · exact lower_at i
theorem lower_mono {n : Nat} {t k : Int} {one two : Rt} (h1 : levelB one = true) (h2 : levelB two = true) (hle : one.num * two.den ≤ two.num * one.den) (i : Nat) (hi : i ≤ n) : lowerI n t k one i ≤ lowerI n t k two i := by
  rcases lower_at (n := n) (t := t) (k := k) (r := two) i with h | h
  · have := (lower_range n t k one i hi).2; omega
  · have hr := lower_range n t k two i hi
    exact lower_le hr.2 (level_le (chooseI_nonneg n t) h1 h2 hle h) i hr.1

/-! Plans: the smallest is the first. -/
theorem plans_mem {s k : Nat} {y : Nat × Nat} : y ∈ plans s k ↔ (y.1 < s ∧ y.2 ≤ y.1) ∨ (y.1 = s ∧ y.2 < k) := by
  obtain ⟨i, j⟩ := y
  simp only [plans, List.mem_append, List.mem_flatMap, List.mem_range, List.mem_map, Prod.mk.injEq]
  constructor
  · rintro (⟨a, ha, b, hb, rfl, rfl⟩ | ⟨a, ha, rfl, rfl⟩)
    · exact .inl ⟨ha, by omega⟩
    · exact .inr ⟨rfl, ha⟩
  · rintro (⟨h1, h2⟩ | ⟨h1, h2⟩)
    · exact .inl ⟨i, h1, j, by omega, rfl, rfl⟩
    · exact .inr ⟨j, h2, h1.symm, rfl⟩
theorem plans_sorted (s k : Nat) : (plans s k).Pairwise fun a b => a.1 ≤ b.1 := by
  unfold plans
  rw [List.pairwise_append]
  refine ⟨?_, ?_, ?_⟩
  · rw [List.pairwise_flatMap]
    refine ⟨fun a _ => ?_, ?_⟩
    · rw [List.pairwise_map]
      exact List.pairwise_lt_range.imp fun _ => Nat.le_refl _
    · refine List.pairwise_lt_range.imp fun {a b} hab x hx y hy => ?_
      obtain ⟨_, _, rfl⟩ := List.mem_map.1 hx
      obtain ⟨_, _, rfl⟩ := List.mem_map.1 hy
      exact Nat.le_of_lt hab
  · rw [List.pairwise_map]
    exact List.pairwise_lt_range.imp fun _ => Nat.le_refl _
  · intro x hx y hy
    simp only [List.mem_flatMap, List.mem_range, List.mem_map] at hx hy
    obtain ⟨a, ha, b, _, rfl⟩ := hx
    obtain ⟨c, _, rfl⟩ := hy
    exact Nat.le_of_lt ha
theorem find_sorted {α : Type} {p : α → Bool} {f : α → Nat} {l : List α} {x y : α} (hs : l.Pairwise fun a b => f a ≤ f b) (hx : l.find? p = some x) (hy : y ∈ l) (hp : p y = true) : f x ≤ f y := by
  obtain ⟨_, as, bs, rfl, hno⟩ := List.find?_eq_some_iff_append.1 hx
  rcases List.mem_append.1 hy with h | h
  · have := hno y h; simp [hp] at this
  · rcases List.mem_cons.1 h with rfl | h
    · exact Nat.le_refl _
    · exact (List.pairwise_cons.1 (List.pairwise_append.1 hs).2.1).1 y h
theorem smallest_first {n g m : Int} {a r : Rt} {x : Nat × Nat} (hx : smallestP n g m a r = some x) {s k : Nat} (hs : s < x.1) (hk : k ≤ s) : tellsB n g m a r s k = false := by
  cases hp : tellsB n g m a r s k with
  | false => rfl
  | true =>
    have hm := plans_mem.1 (List.mem_of_find?_eq_some hx)
    have := find_sorted (y := (s, k)) (plans_sorted _ _) hx (plans_mem.2 (.inl ⟨(by omega : s < _), hk⟩)) hp
    simp only at this
    omega
theorem smallest_range {n g m : Int} {a r : Rt} {x : Nat × Nat} (hx : smallestP n g m a r = some x) : tellsB n g m a r x.1 x.2 = true ∧ x.1 ≤ n.toNat ∧ x.2 ≤ x.1 := by
  have h1 := List.find?_some hx
  have hm := plans_mem.1 (List.mem_of_find?_eq_some hx)
  exact ⟨h1, by omega, by omega⟩
theorem smallest_no {n g m : Int} {a r : Rt} (hx : smallestP n g m a r = none) {s k : Nat} (hs : s ≤ n.toNat) (hk : k ≤ s) : tellsB n g m a r s k = false := by
  have := List.find?_eq_none.1 hx (s, k) (plans_mem.2 (.inl ⟨(by omega : s < _), hk⟩))
  simpa using this

/-! Spans: the shortest is the first. -/
theorem spansL_mem {N s k : Nat} {y : Nat × Nat} : y ∈ spansL N s k ↔ (y.1 < s ∧ y.2 < N + 1 - y.1) ∨ (y.1 = s ∧ y.2 < k) := by
  obtain ⟨i, j⟩ := y
  simp only [spansL, List.mem_append, List.mem_flatMap, List.mem_range, List.mem_map, Prod.mk.injEq]
  constructor
  · rintro (⟨a, ha, b, hb, rfl, rfl⟩ | ⟨a, ha, rfl, rfl⟩)
    · exact .inl ⟨ha, hb⟩
    · exact .inr ⟨rfl, ha⟩
  · rintro (⟨h1, h2⟩ | ⟨h1, h2⟩)
    · exact .inl ⟨i, h1, j, h2, rfl, rfl⟩
    · exact .inr ⟨j, h2, h1.symm, rfl⟩
theorem spansL_sorted (N s k : Nat) : (spansL N s k).Pairwise fun a b => a.1 ≤ b.1 := by
  unfold spansL
  rw [List.pairwise_append]
  refine ⟨?_, ?_, ?_⟩
  · rw [List.pairwise_flatMap]
    refine ⟨fun a _ => ?_, ?_⟩
    · rw [List.pairwise_map]
      exact List.pairwise_lt_range.imp fun _ => Nat.le_refl _
    · refine List.pairwise_lt_range.imp fun {a b} hab x hx y hy => ?_
      obtain ⟨_, _, rfl⟩ := List.mem_map.1 hx
      obtain ⟨_, _, rfl⟩ := List.mem_map.1 hy
      exact Nat.le_of_lt hab
  · rw [List.pairwise_map]
    exact List.pairwise_lt_range.imp fun _ => Nat.le_refl _
  · intro x hx y hy
    simp only [List.mem_flatMap, List.mem_range, List.mem_map] at hx hy
    obtain ⟨a, ha, b, _, rfl⟩ := hx
    obtain ⟨c, _, rfl⟩ := hy
    exact Nat.le_of_lt ha
theorem ask_ok {b : Bt} {s : Int} {r : Rt} (h : askI b s r = 0) : kindI b s = 0 ∧ levelB r = true := by
  unfold askI at h
  by_cases h1 : kindI b s ≠ 0
  · rw [if_pos h1] at h; exact absurd h h1
  · rw [if_neg h1] at h
    cases h2 : levelB r with
    | true => exact ⟨by omega, rfl⟩
    | false => rw [h2] at h; simp at h
theorem short_ask (b : Bt) (s : Int) (r : Rt) : (shortestR b s r).2 = askI b s r := by
  by_cases h : askI b s r = 0
  · cases hx : shortestP b s r with
    | none => rw [shortest_none h hx, h]
    | some x => rw [shortest_some h hx, h]
  · rw [shortest_err h]
/-- The shortest span: believed enough, within the numbers, and no longer than any that is believed enough. -/
theorem short_spec {b : Bt} {s : Int} {r : Rt} (h : askI b s r = 0) : ∃ lo hi : Int, (shortestR b s r).1 = ⟨lo, hi⟩ ∧ 0 ≤ lo ∧ lo ≤ hi ∧ hi ≤ b.n ∧ totalI (weightsL b s) * r.num ≤ spanI (weightsL b s) ⟨lo, hi⟩ * r.den ∧
    ∀ i j : Nat, (i : Int) + j ≤ b.n → enoughB (weightsL b s) r i j = true → hi - lo ≤ i := by
  have hk := ask_ok h
  have hc := (kind_ok hk.1).1
  have hn := right_n (check_ok hc).1
  have hl := level_ok hk.2
  have ht := total_pos hc s
  cases hx : shortestP b s r with
  | none =>
    refine ⟨0, b.n, by rw [shortest_none h hx], by omega, by omega, by omega, ?_, fun i j hij he => ?_⟩
    · have e : spanI (weightsL b s) ⟨0, b.n⟩ = totalI (weightsL b s) := by
        rw [totalI_eq, spanI_eq]
        refine sumI_congr fun i hi => ?_
        rw [weights_len] at hi
        unfold inSp
        rw [if_pos (by simp only; omega)]
      rw [e]
      exact Int.mul_le_mul_of_nonneg_left (by omega) (by omega)
    · have := List.find?_eq_none.1 hx (i, j) (spansL_mem.2 (.inl ⟨by simp only; omega, by simp only; omega⟩))
      simp [he] at this
  | some x =>
    have h1 := List.find?_some hx
    have hm := spansL_mem.1 (List.mem_of_find?_eq_some hx)
    refine ⟨x.2, (x.2 : Int) + x.1, by rw [shortest_some h hx], by omega, by omega, by omega, by simpa [enoughB] using h1, fun i j hij he => ?_⟩
    have := find_sorted (y := (i, j)) (spansL_sorted _ _ _) hx (spansL_mem.2 (.inl ⟨by simp only; omega, by simp only; omega⟩)) he
    simp only at this
    omega
theorem short_wider {b : Bt} {s : Int} {one two : Rt} (h1 : askI b s one = 0) (h2 : askI b s two = 0) (hle : one.num * two.den ≤ two.num * one.den) :
    (shortestR b s one).1.hi - (shortestR b s one).1.lo ≤ (shortestR b s two).1.hi - (shortestR b s two).1.lo := by
  obtain ⟨l1, u1, e1, a1, b1, c1, d1, f1⟩ := short_spec h1
  obtain ⟨l2, u2, e2, a2, b2, c2, d2, f2⟩ := short_spec h2
  rw [e1, e2]
  simp only
  have ht := total_pos (kind_ok (ask_ok h1).1).1 s
  have := level_le (by omega) (ask_ok h1).2 (ask_ok h2).2 hle d2
  have := f1 (u2 - l2).toNat l2.toNat (by omega) (by
    unfold enoughB
    rw [show ((l2.toNat : Nat) : Int) = l2 by omega, show l2 + ((u2 - l2).toNat : Nat) = u2 by omega]
    exact decide_eq_true this)
  omega
end Go.Proofs.Ytaaeipjnhjgjdaa
