import Derived.Test.YtnedcclmfokdnaaGreatJ2
import Derived.Test.YtnedcclmfokdnaaGreatZNetE
namespace Go.Proofs.YtnedcclmfokdnaaGreat
theorem tab_dst {l : List Tie} {n : Int} (ok : NetOk l n) {D : Int → Int → Int} (h : TabOk l n D) (hc : Can l) {x y : Int} (hx : 0 ≤ x ∧ x < n) (hy : 0 ≤ y ∧ y < n) (hr : Reaches l n x) : D x y = dst l x y := by
  obtain ⟨⟨p, p1, p2, p3⟩, _⟩ := dst_is hc (hr y hy.1 hy.2)
  have hk := dst_heights ok hc hr
  have e := dst_self hc x
  have := tab_is ok h hk hx hy p1 p2 (by rw [e]; omega)
  rw [this, e]; omega
theorem can_or {l : List Tie} {n : Int} (ok : NetOk l n) {D : Int → Int → Int} (h : TabOk l n D) (hr : Reaches l n 0) (hd : ∀ i, 0 ≤ i → i < n → 0 ≤ D i i) : Can l := by
  have hno : ¬ ∃ c, Circle l c := fun hc => by
    obtain ⟨i, a, b, c⟩ := tab_circle ok h hc
    have := hd i a b
    omega
  have key : ∀ p, (∀ t ∈ p, t ∈ l) → ∀ y, chainT p 0 y → -687865856 ≤ sumT p := fun p p1 y p2 => by
    rcases simple_chain p.length p 0 y (Nat.le_refl _) p1 p2 with ⟨q, h1, h2, h3, h4⟩ | ⟨c, h1, _⟩
    · have := simple_sum ok h1 h3
      omega
    · exact absurd ⟨c, h1⟩ hno
  have hex : ∀ y, 0 ≤ y ∧ y < n → ∃ s, (∃ p, (∀ t ∈ p, t ∈ l) ∧ chainT p 0 y ∧ sumT p = s) ∧ ∀ p, (∀ t ∈ p, t ∈ l) → chainT p 0 y → s ≤ sumT p := fun y hy => by
    obtain ⟨p, p1, p2⟩ := hr y hy.1 hy.2
    obtain ⟨s, h1, h2⟩ := least_of (P := fun s => ∃ p, (∀ t ∈ p, t ∈ l) ∧ chainT p 0 y ∧ sumT p = s) (-687865856) (fun s ⟨p, p1, p2, p3⟩ => p3 ▸ key p p1 y p2) ⟨_, p, p1, p2, rfl⟩
    exact ⟨s, h1, fun p p1 p2 => h2 _ ⟨p, p1, p2, rfl⟩⟩
  refine ⟨dst l 0, fun t ht => ?_⟩
  have hb := ok.rng t ht
  obtain ⟨a, ha⟩ := hex t.frm ⟨hb.1, hb.2.1⟩
  obtain ⟨b, hb'⟩ := hex t.too ⟨hb.2.2.1, hb.2.2.2.1⟩
  rw [dst_of ha, dst_of hb']
  obtain ⟨⟨p, p1, p2, p3⟩, _⟩ := ha
  have := hb'.2 (p ++ [t]) (fun u hu => (List.mem_append.1 hu).elim (p1 u) (fun h => by rw [List.mem_singleton] at h; exact h ▸ ht)) (chainT_app.2 ⟨t.frm, p2, rfl, rfl⟩)
  rw [sumT_app] at this
  simp only [sumT] at this
  omega
theorem circle_or {l : List Tie} {n : Int} (ok : NetOk l n) {D : Int → Int → Int} (h : TabOk l n D) (hr : Reaches l n 0) : Can l ↔ ∀ i, 0 ≤ i → i < n → 0 ≤ D i i :=
  ⟨fun ⟨_, hg⟩ i _ _ => tab_keeps h hg i, can_or ok h hr⟩
end Go.Proofs.YtnedcclmfokdnaaGreat

namespace Go.Proofs.YtnedcclmfokdnaaGreat
open Go.RowKit
theorem sum_le {l : List Int} {b : Int} (h : ∀ x ∈ l, 0 ≤ x ∧ x ≤ b) : 0 ≤ l.sum ∧ l.sum ≤ b * l.length := by
  induction l with
  | nil => simp
  | cons x l ih =>
    have h1 := h x (by simp)
    have h2 := ih fun y hy => h y (by simp [hy])
    simp only [List.sum_cons, List.length_cons]
    have e : b * ((l.length + 1 : Nat) : Int) = b * (l.length : Int) + b := by push_cast; rw [Int.mul_add, Int.mul_one]
    omega
theorem sum_take_rng {l : List Int} {n : Nat} (h : wtsB l n = true) (hn : n ≤ 20) (i : Nat) : 0 ≤ (l.take i).sum ∧ (l.take i).sum ≤ 335544320 := by
  obtain ⟨h1, h2⟩ := wtsB_iff.1 h
  have a := sum_le (l := l.take i) fun x hx => h2 x (List.mem_of_mem_take hx)
  have b : (l.take i).length ≤ 20 := by rw [List.length_take]; omega
  omega
end Go.Proofs.YtnedcclmfokdnaaGreat
