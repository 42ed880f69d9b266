import Derived.Test.YtnedcclmfokdnaaGreatJ8
import Derived.Test.YtnedcclmfokdnaaGreatJ25
import Derived.Test.YtnedcclmfokdnaaGreatZSOverE
import Derived.Test.YtnedcclmfokdnaaGreatZSSpecE
namespace Go.Proofs.YtnedcclmfokdnaaGreat
open Go.RowKit
def clamp (c d x : Int) : Int := min (max x c) d
theorem tk_clamp {g : Int → Int} {a b : Pt} (ha : g a.ahead ≤ g a.own) (hb : g b.ahead ≤ g b.own) : tk g a b = clamp (g b.ahead) (g b.own) (g a.own) - clamp (g b.ahead) (g b.own) (g a.ahead) := by
  unfold tk clamp; omega
def sumTo (f : Nat → Int) : Nat → Int
  | 0 => 0
  | n + 1 => sumTo f n + f n
theorem sumTo_tele (f h : Nat → Int) : ∀ n : Nat, (∀ i, i < n → f i = h (i + 1) - h i) → sumTo f n = h n - h 0
  | 0, _ => by simp [sumTo]
  | n + 1, e => by rw [sumTo, sumTo_tele f h n fun i hi => e i (by omega), e n (by omega)]; omega
theorem sumTo_le (f h : Nat → Int) : ∀ n : Nat, (∀ i, i < n → f i ≤ h i) → sumTo f n ≤ sumTo h n
  | 0, _ => by simp [sumTo]
  | n + 1, e => by have := sumTo_le f h n fun i hi => e i (by omega); have := e n (by omega); simp only [sumTo]; omega
theorem keeps_up_load {k : Kl} (hR : Right k) {g : Int → Int} (hk : Keeps (tiesL k) g) {i : Nat} (hi : i < k.ls.length) : g i ≤ g ((i : Int) + 1) := by
  have h1 := keeps_load hk (List.getElem?_eq_getElem hi)
  have h2 := hR.small.lb i _ (List.getElem?_eq_getElem hi)
  omega
theorem keeps_up_draw {k : Kl} (hR : Right k) {g : Int → Int} (hk : Keeps (tiesL k) g) {j : Nat} (hj : j < k.ds.length) : g (markI k j) ≤ g (markI k ((j : Int) + 1)) := by
  have h1 := keeps_draw hk (List.getElem?_eq_getElem hj)
  have h2 := hR.small.db j _ (List.getElem?_eq_getElem hj)
  omega
theorem keeps_mono {k : Kl} (hR : Right k) {g : Int → Int} (hk : Keeps (tiesL k) g) {i : Nat} : ∀ {j : Nat}, i ≤ j → j ≤ k.ls.length → g i ≤ g j
  | 0, h, _ => by obtain rfl : i = 0 := by omega
                  exact Int.le_refl _
  | j + 1, h, hj => by
    by_cases e : i = j + 1
    · subst e; exact Int.le_refl _
    · have h1 := keeps_mono hR hk (i := i) (j := j) (by omega) (by omega)
      have h2 := keeps_up_load hR hk (i := j) (by omega)
      push_cast
      omega
theorem keeps_monoD {k : Kl} (hR : Right k) {g : Int → Int} (hk : Keeps (tiesL k) g) {i : Nat} : ∀ {j : Nat}, i ≤ j → j ≤ k.ds.length → g (markI k i) ≤ g (markI k j)
  | 0, h, _ => by obtain rfl : i = 0 := by omega
                  exact Int.le_refl _
  | j + 1, h, hj => by
    by_cases e : i = j + 1
    · subst e; exact Int.le_refl _
    · have h1 := keeps_monoD hR hk (i := i) (j := j) (by omega) (by omega)
      have h2 := keeps_up_draw hR hk (j := j) (by omega)
      push_cast
      omega
theorem charged_le (k : Kl) (h : Int) : 0 ≤ chargedI k h ∧ chargedI k h ≤ k.ls.length := by
  unfold chargedI
  have := lastLe_le k.ls h k.ls.length
  omega
theorem keeps_stock {k : Kl} {g : Int → Int} (hk : Keeps (tiesL k) g) {j : Nat} {x : Rec} (hx : k.ds[j]? = some x) : g (markI k ((j : Int) + 1)) ≤ g (chargedI k x.hour) := by
  have ht : (⟨chargedI k x.hour, markI k ((j : Int) + 1), 0, 0⟩ : Tie) ∈ tiesL k := by
    unfold tiesL
    simp only [List.mem_append, List.mem_flatMap, List.mem_range]
    exact .inl (.inr ⟨j, (List.getElem?_eq_some_iff.1 hx).1, by unfold stockTies; rw [hx]; simp⟩)
  have := hk _ ht
  simp only at this
  omega
theorem mark0 (k : Kl) : markI k ((0 : Nat) : Int) = 0 := if_pos rfl
theorem drawP_own (k : Kl) (i : Int) : (drawP k i).own = markI k (i + 1) := rfl
theorem drawP_ahead (k : Kl) (i : Int) : (drawP k i).ahead = markI k i := rfl
theorem sum_loads {k : Kl} (hR : Right k) {g : Int → Int} (hk : Keeps (tiesL k) g) {j : Nat} (hj : j < k.ds.length) : sumTo (fun i => tk g (loadP i) (drawP k j)) k.ls.length = g (markI k ((j : Int) + 1)) - g (markI k j) := by
  have hu := keeps_up_draw hR hk hj
  have h0 := keeps_monoD hR hk (i := 0) (j := j) (by omega) (by omega)
  rw [mark0] at h0
  have h1 := keeps_stock hk (List.getElem?_eq_getElem hj)
  obtain ⟨c, hc⟩ : ∃ c : Nat, chargedI k (k.ds[j]).hour = c := ⟨(chargedI k (k.ds[j]).hour).toNat, by have := charged_le k (k.ds[j]).hour; omega⟩
  have h2 := charged_le k (k.ds[j]).hour
  rw [hc] at h1 h2
  have h3 := keeps_mono hR hk (i := c) (j := k.ls.length) (by omega) (by omega)
  rw [sumTo_tele _ (fun i : Nat => clamp (g (markI k j)) (g (markI k ((j : Int) + 1))) (g (i : Int)))]
  · have h4 : g ((0 : Nat) : Int) = g 0 := rfl
    unfold clamp; rw [h4]; omega
  · intro i hi
    rw [tk_clamp (by rw [loadP_own, loadP_ahead]; exact keeps_up_load hR hk hi) hu]
    rfl
theorem draw_light {k : Kl} (hR : Right k) {g : Int → Int} (hk : Keeps (tiesL k) g) {j : Nat} (hj : j < k.ds.length) : g (drawP k j).own - g (drawP k j).ahead ≤ 1048576 := by
  have h1 := keeps_draw hk (List.getElem?_eq_getElem hj)
  have h2 := hR.small.db j _ (List.getElem?_eq_getElem hj)
  rw [drawP_own, drawP_ahead]; omega
theorem took_between {k : Kl} (hR : Right k) {g : Int → Int} (hk : Keeps (tiesL k) g) {i j : Nat} (hi : i < k.ls.length) (hj : j < k.ds.length) : leastZ (tiesL k) (loadP i) (drawP k j) ≤ tk g (loadP i) (drawP k j) ∧ tk g (loadP i) (drawP k j) ≤ mostZ (tiesL k) (loadP i) (drawP k j) :=
  ⟨leastZ_le (pts_ok hi hj) hk, mostZ_ge hk (.inr (draw_light hR hk hj))⟩
theorem sum_least {k : Kl} (hR : Right k) (hc : Can (tiesL k)) {j : Nat} (hj : j < k.ds.length) : sumTo (fun i => leastZ (tiesL k) (loadP i) (drawP k j)) k.ls.length ≤ dst (tiesL k) (markI k j) (markI k ((j : Int) + 1)) := by
  obtain ⟨g, hk⟩ := hc
  have m1 := mark_rng k (show (0 : Int) ≤ (j : Int) by omega) (by omega)
  have m2 := mark_rng k (show (0 : Int) ≤ (j : Int) + 1 by omega) (by omega)
  have h1 := sumTo_le _ (fun i : Nat => tk g (loadP i) (drawP k j)) k.ls.length fun i hi => (took_between hR hk hi hj).1
  have h2 := sum_loads hR hk hj
  have h3 := dst_ge (net_reaches k m1.1 m1.2 _ m2.1 m2.2) hk
  omega
theorem sum_most {k : Kl} (hR : Right k) (hc : Can (tiesL k)) {j : Nat} (hj : j < k.ds.length) : -(dst (tiesL k) (markI k ((j : Int) + 1)) (markI k j)) ≤ sumTo (fun i => mostZ (tiesL k) (loadP i) (drawP k j)) k.ls.length := by
  obtain ⟨g, hk⟩ := hc
  have m1 := mark_rng k (show (0 : Int) ≤ (j : Int) by omega) (by omega)
  have m2 := mark_rng k (show (0 : Int) ≤ (j : Int) + 1 by omega) (by omega)
  have h1 := sumTo_le (fun i : Nat => tk g (loadP i) (drawP k j)) (fun i : Nat => mostZ (tiesL k) (loadP i) (drawP k j)) k.ls.length fun i hi => (took_between hR hk hi hj).2
  have h2 := sum_loads hR hk hj
  have h3 := dst_ge (net_reaches k m2.1 m2.2 _ m1.1 m1.2) hk
  omega
theorem sure_between {k : Kl} (hR : Right k) (hc : Can (tiesL k)) {a i b j : Nat} (ha : a < i) (hb : i < b) (hbl : b < k.ls.length) (hj : j < k.ds.length) (h1 : 0 < leastZ (tiesL k) (loadP a) (drawP k j)) (h2 : 0 < leastZ (tiesL k) (loadP b) (drawP k j))
    (h3 : 0 < -(dst (tiesL k) ((i : Int) + 1) i)) : 0 < leastZ (tiesL k) (loadP i) (drawP k j) := by
  obtain ⟨g, hk, hg⟩ := leastZ_has (net_ok hR) (pts_ok (k := k) (i := i) (j := j) (by omega) hj) hc
  have e1 := leastZ_le (pts_ok (k := k) (i := a) (j := j) (by omega) hj) hk
  have e2 := leastZ_le (pts_ok (k := k) (i := b) (j := j) (by omega) hj) hk
  have hn : marksN k = 1 + k.ls.length + k.ds.length := rfl
  have e3 := dst_ge (net_reaches k (show (0 : Int) ≤ (i : Int) + 1 by omega) (by omega) (i : Int) (by omega) (by omega)) hk
  have m1 := keeps_mono hR hk (i := a + 1) (j := i) (by omega) (by omega)
  have m2 := keeps_mono hR hk (i := i + 1) (j := b) (by omega) (by omega)
  have c1 : ((a + 1 : Nat) : Int) = (a : Int) + 1 := by omega
  have c2 : ((i + 1 : Nat) : Int) = (i : Int) + 1 := by omega
  rw [c1] at m1
  rw [c2] at m2
  rw [← hg]
  unfold tk at e1 e2 ⊢
  simp only [loadP_own, loadP_ahead] at e1 e2 ⊢
  omega
theorem none_later {k : Kl} (hR : Right k) (hc : Can (tiesL k)) {i j : Nat} {x y : Rec} (hx : k.ls[i]? = some x) (hy : k.ds[j]? = some y) (h : y.hour < x.hour) : mostZ (tiesL k) (loadP i) (drawP k j) = 0 := by
  have hi := (List.getElem?_eq_some_iff.1 hx).1
  have hj := (List.getElem?_eq_some_iff.1 hy).1
  obtain ⟨g, hk, hg⟩ := mostZ_has (a := loadP i) (b := drawP k j) hc fun g hk => .inr (draw_light hR hk hj)
  have h1 := keeps_stock hk hy
  have h2 := charged_le k y.hour
  have h3 : chargedI k y.hour ≤ i := by
    have : ¬ i < cntLe k.ls y.hour := fun hc => by
      have := (made_by hR.upL hx (h := y.hour)).2 hc
      omega
    unfold chargedI
    rw [cnt_last hR.upL]
    omega
  obtain ⟨c, hcc⟩ : ∃ c : Nat, chargedI k y.hour = c := ⟨(chargedI k y.hour).toNat, by omega⟩
  rw [hcc] at h1 h3
  have h4 := keeps_mono hR hk (i := c) (j := i) (by omega) (by omega)
  rw [← hg]
  unfold tk
  rw [drawP_own, loadP_ahead]
  omega
end Go.Proofs.YtnedcclmfokdnaaGreat
