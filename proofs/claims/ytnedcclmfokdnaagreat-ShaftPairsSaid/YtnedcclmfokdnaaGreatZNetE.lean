import Derived.Test.YtnedcclmfokdnaaGreatJ2
namespace Go.Proofs.YtnedcclmfokdnaaGreat
def relaxV (D : Int → Int → Int) (m i j : Int) : Int := max (0 - farN) (min (D i j) (D i m + D m j))
def relaxT (D : Int → Int → Int) (m i j : Int) : Int → Int → Int := if D i m < farN ∧ D m j < farN then updT D i j (relaxV D m i j) else D
theorem up_le {l : List Tie} {m : Int} {D D' : Int → Int → Int} {i j : Int} (h : Up l m D i j) (hd : D' i j ≤ D i j) : Up l m D' i j :=
  fun p a b c d => Int.le_trans hd (h p a b c d)
theorem relax_le {l : List Tie} {D : Int → Int → Int} (h : TabR l D) (m i j x y : Int) : relaxT D m i j x y ≤ D x y := by
  unfold relaxT
  split
  · unfold updT
    split
    · rename_i e; obtain ⟨rfl, rfl⟩ := e
      have := (h.rng x y).1
      unfold relaxV; omega
    · exact Int.le_refl _
  · exact Int.le_refl _
theorem relax_R {l : List Tie} {D : Int → Int → Int} (h : TabR l D) (m i j : Int) : TabR l (relaxT D m i j) := by
  unfold relaxT
  split
  · rename_i hf
    refine ⟨fun x y => ?_, fun g hg x y => ?_⟩
    · unfold updT
      split
      · have h1 := h.rng i j
        unfold relaxV farN at *
        omega
      · exact h.rng x y
    · unfold updT
      split
      · rename_i e; obtain ⟨rfl, rfl⟩ := e
        have h1 := h.low g hg x m
        have h2 := h.low g hg m y
        have h3 := h.low g hg x y
        have h4 := h.rng x y
        unfold relaxV
        unfold farN at *
        omega
      · exact h.low g hg x y
  · exact h
theorem relax_up {l : List Tie} {n : Int} (ok : NetOk l n) {D : Int → Int → Int} (h : TabR l D) {m i j : Int} (h1 : Up l m D i m) (h2 : Up l m D m j) (h3 : Up l m D i j) :
    Up l (m + 1) (relaxT D m i j) i j := by
  intro p hs hc hd hx
  by_cases hm : m ∈ (p.map (·.frm)).tail
  · -- the chain goes over m
    obtain ⟨t0, p0, rfl⟩ : ∃ t0 p0, p = t0 :: p0 := by
      cases p with
      | nil => simp at hm
      | cons t0 p0 => exact ⟨t0, p0, rfl⟩
    simp only [List.map_cons, List.tail_cons] at hm hx
    obtain ⟨t, ht, rfl⟩ := List.mem_map.1 hm
    obtain ⟨a, b, rfl⟩ := List.append_of_mem ht
    have hc' : chainT ((t0 :: a) ++ t :: b) i j := by simpa using hc
    obtain ⟨k1, k2⟩ := chain_at hc'
    have hd' : (((t0 :: a) ++ t :: b).map (·.frm)).Nodup := by simpa using hd
    rw [List.map_append, List.nodup_append] at hd'
    obtain ⟨d1, d2, d3⟩ := hd'
    have s1 : ∀ u ∈ t0 :: a, u ∈ l := fun u hu => hs u (by simp only [List.mem_cons, List.mem_append] at hu ⊢; rcases hu with h | h <;> simp [h])
    have s2 : ∀ u ∈ t :: b, u ∈ l := fun u hu => hs u (by simp only [List.mem_cons, List.mem_append] at hu ⊢; rcases hu with h | h <;> simp [h])
    have e1 : D i t.frm ≤ sumT (t0 :: a) := h1 _ s1 k1 d1 (fun x hxa => by
      simp only [List.map_cons, List.tail_cons] at hxa
      have h5 := hx x (by rw [List.map_append]; exact List.mem_append.2 (.inl hxa))
      have h6 := d3 x (by simp only [List.map_cons, List.mem_cons]; exact .inr hxa) t.frm (by simp)
      omega)
    have e2 : D t.frm j ≤ sumT (t :: b) := h2 _ s2 k2 d2 (fun x hxb => by
      simp only [List.map_cons, List.tail_cons] at hxb
      have h5 := hx x (by rw [List.map_append, List.map_cons]; exact List.mem_append.2 (.inr (List.mem_cons_of_mem _ hxb)))
      have h6 : x ≠ t.frm := by
        rw [List.map_cons, List.nodup_cons] at d2
        rintro rfl
        exact d2.1 hxb
      omega)
    have f1 := simple_sum ok s1 d1
    have f2 := simple_sum ok s2 d2
    have f3 := simple_sum ok hs hd
    have es : sumT (t0 :: (a ++ t :: b)) = sumT (t0 :: a) + sumT (t :: b) := by rw [← sumT_app]; simp
    have g1 : D i t.frm < farN ∧ D t.frm j < farN := by unfold farN; omega
    unfold relaxT
    rw [if_pos g1]
    unfold updT
    rw [if_pos ⟨rfl, rfl⟩]
    unfold relaxV farN
    omega
  · have e := h3 p hs hc hd (fun x hxp => by
      have h5 := hx x hxp
      have h6 : x ≠ m := by rintro rfl; exact hm hxp
      omega)
    exact Int.le_trans (relax_le h m i j i j) e
theorem tabAt_step {l : List Tie} {n m i j : Int} (ok : NetOk l n) {D : Int → Int → Int} (h : TabAt l n m i j D) (hm : 0 ≤ m ∧ m < n) (hi : 0 ≤ i ∧ i < n) (hj : 0 ≤ j ∧ j < n) : TabAt l n m i (j + 1) (relaxT D m i j) := by
  refine ⟨relax_R h.toTabR m i j, fun x y a b c d => up_le (h.old x y a b c d) (relax_le h.toTabR m i j x y), fun x y h0 h1 h2 h3 h4 => ?_⟩
  by_cases e : x = i ∧ y = j
  · obtain ⟨rfl, rfl⟩ := e
    exact relax_up ok h.toTabR (h.old _ _ h0 h1 hm.1 hm.2) (h.old _ _ hm.1 hm.2 h2 h3) (h.old _ _ h0 h1 h2 h3)
  · exact up_le (h.new x y h0 h1 h2 h3 (by omega)) (relax_le h.toTabR m i j x y)
theorem tabAt_row {l : List Tie} {n m i : Int} {D : Int → Int → Int} (h : TabAt l n m i n D) : TabAt l n m (i + 1) 0 D :=
  ⟨h.toTabR, h.old, fun x y h0 h1 h2 h3 h4 => h.new x y h0 h1 h2 h3 (by omega)⟩
theorem tabAt_next {l : List Tie} {n m : Int} {D : Int → Int → Int} (h : TabAt l n m n 0 D) : TabAt l n (m + 1) 0 0 D :=
  ⟨h.toTabR, fun x y h0 h1 h2 h3 => h.new x y h0 h1 h2 h3 (.inl h1), fun x y h0 h1 h2 h3 h4 => by omega⟩
def tab0 (i j : Int) : Int := if i = j then 0 else farN
def tieT (D : Int → Int → Int) (t : Tie) : Int → Int → Int := updT D t.frm t.too (min (D t.frm t.too) t.most)
structure TabI (l done : List Tie) (D : Int → Int → Int) : Prop extends TabR l D where
  self : ∀ i, D i i ≤ 0
  tie : ∀ t ∈ done, D t.frm t.too ≤ t.most
theorem tabI_start (l : List Tie) : TabI l [] tab0 := by
  refine ⟨⟨fun i j => ?_, fun h hk i j => ?_⟩, fun i => by simp [tab0], by simp⟩
  · unfold tab0 farN; split <;> omega
  · unfold tab0
    split
    · rename_i e; subst e; exact .inr (by omega)
    · exact .inl rfl
theorem tabI_step {l done : List Tie} {n : Int} (ok : NetOk l n) {D : Int → Int → Int} {t : Tie} (ht : t ∈ l) (h : TabI l done D) : TabI l (done ++ [t]) (tieT D t) := by
  have hb := ok.rng t ht
  have hle : ∀ x y, tieT D t x y ≤ D x y := fun x y => by
    unfold tieT updT
    split
    · rename_i e; obtain ⟨rfl, rfl⟩ := e; omega
    · exact Int.le_refl _
  refine ⟨⟨fun x y => ?_, fun g hg x y => ?_⟩, fun i => Int.le_trans (hle i i) (h.self i), fun u hu => ?_⟩
  · have h1 := h.rng t.frm t.too
    have h2 := h.rng x y
    unfold tieT updT farN at *
    split <;> omega
  · have h1 := hg t ht
    have h2 := h.low g hg x y
    unfold tieT updT
    split
    · rename_i e; obtain ⟨rfl, rfl⟩ := e
      have h4 := h.rng t.frm t.too
      unfold farN at *
      omega
    · exact h2
  · rcases List.mem_append.1 hu with hu | hu
    · exact Int.le_trans (hle _ _) (h.tie u hu)
    · rw [List.mem_singleton] at hu
      subst hu
      unfold tieT updT
      rw [if_pos ⟨rfl, rfl⟩]
      omega
theorem tabI_end {l : List Tie} {n : Int} (ok : NetOk l n) {D : Int → Int → Int} (h : TabI l l D) : TabAt l n 0 0 0 D := by
  refine ⟨h.toTabR, fun x y _ _ _ _ p hs hc hd hx => ?_, fun x y h0 h1 h2 h3 h4 => by omega⟩
  match p, hc, hs, hx with
  | [], hc, _, _ => obtain rfl : x = y := hc; exact h.self x
  | [t], hc, hs, _ => obtain ⟨rfl, rfl⟩ := hc; simpa [sumT] using h.tie t (hs t (by simp))
  | t :: u :: q, hc, hs, hx =>
    have h1 := hx u.frm (by simp)
    have h2 := ok.rng u (hs u (by simp))
    omega
theorem tabAt_end {l : List Tie} {n : Int} (ok : NetOk l n) {D : Int → Int → Int} (h : TabAt l n n 0 0 D) : TabOk l n D :=
  ⟨h.toTabR, fun x y h0 h1 h2 h3 p hs hc hd => h.old x y h0 h1 h2 h3 p hs hc hd fun z hz => by
    obtain ⟨t, ht, rfl⟩ := List.mem_map.1 (List.mem_of_mem_tail hz)
    exact (ok.rng t (hs t ht)).2.1⟩
theorem tab_circle {l : List Tie} {n : Int} (ok : NetOk l n) {D : Int → Int → Int} (h : TabOk l n D) (hc : ∃ c, Circle l c) : ∃ i, 0 ≤ i ∧ i < n ∧ D i i < 0 := by
  obtain ⟨c, hc⟩ := hc
  have hc' := hc
  obtain ⟨hne, hs, ⟨a, ha⟩, hn⟩ := hc
  have key : ∀ c, Circle l c → (c.map (·.frm)).Nodup → ∃ i, 0 ≤ i ∧ i < n ∧ D i i < 0 := by
    rintro c ⟨hne, hs, ⟨a, ha⟩, hn⟩ hd
    cases c with
    | nil => exact absurd rfl hne
    | cons t c =>
      have h1 := ok.rng t (hs t (by simp))
      obtain rfl := ha.1
      exact ⟨t.frm, h1.1, h1.2.1, Int.lt_of_le_of_lt (h.up _ _ h1.1 h1.2.1 h1.1 h1.2.1 _ hs ha hd) hn⟩
  rcases simple_chain c.length c a a (Nat.le_refl _) hs ha with ⟨q, h1, h2, h3, h4⟩ | ⟨c', h1, h2⟩
  · refine key q ⟨?_, h1, ⟨a, h2⟩, by omega⟩ h3
    rintro rfl
    simp only [sumT] at h4
    omega
  · exact key c' h1 h2
theorem tab_keeps {l : List Tie} {n : Int} {D : Int → Int → Int} (h : TabOk l n D) {g : Int → Int} (hg : Keeps l g) (i : Int) : 0 ≤ D i i := by
  have h1 := h.low g hg i i
  unfold farN at h1
  omega
theorem tab_is {l : List Tie} {n : Int} (ok : NetOk l n) {D : Int → Int → Int} (h : TabOk l n D) {g : Int → Int} (hg : Keeps l g) {a b : Int} (ha : 0 ≤ a ∧ a < n) (hb : 0 ≤ b ∧ b < n)
    {p : List Tie} (hs : ∀ t ∈ p, t ∈ l) (hc : chainT p a b) (hp : g b - g a = sumT p) : D a b = g b - g a := by
  rcases simple_chain p.length p a b (Nat.le_refl _) hs hc with ⟨q, h1, h2, h3, h4⟩ | ⟨c, h1, _⟩
  · have e1 := h.up a b ha.1 ha.2 hb.1 hb.2 q h1 h2 h3
    have e2 := h.low g hg a b
    have e3 := simple_sum ok h1 h3
    unfold farN at e2
    omega
  · exact absurd hg (circle_no h1 g)
end Go.Proofs.YtnedcclmfokdnaaGreat
