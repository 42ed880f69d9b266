import Derived.Test.YtpgepfbdjefmdaaGreatJ2
namespace Go.Proofs.YtpgepfbdjefmdaaGreat
open Go.RowKit
theorem badAt_some {l : List Tie} {h : Int → Int} {i : Nat} {t : Tie} (ht : l[i]? = some t) (hb : t.most < h t.too - h t.frm) (hp : ∀ (j : Nat) (s : Tie), j < i → l[j]? = some s → h s.too - h s.frm ≤ s.most) : badAt l h = some i := by
  unfold badAt
  obtain ⟨hl, e⟩ := List.getElem?_eq_some_iff.1 ht
  rw [List.findIdx?_eq_some_iff_getElem]
  refine ⟨hl, by rw [e]; simpa using hb, fun j hj => ?_⟩
  have := hp j _ hj (List.getElem?_eq_getElem (by omega))
  simp only [decide_eq_true_eq]
  omega
def fitsN (k : Kl) (tl td : List Int) : Int := if fitsE k tl td = 0 then (match badAt (tiesL k) (hgt k.ls.length tl td) with | some i => (i : Int) | none => 0) else 0
theorem sum_le {l : List Int} {b : Int} (h : ∀ x ∈ l, 0 ≤ x ∧ x ≤ b) : 0 ≤ l.sum ∧ l.sum ≤ b * l.length := by
  induction l with
  | nil => simp
  | cons x l ih =>
    have h1 := h x (by simp)
    have h2 := ih fun y hy => h y (by simp [hy])
    simp only [List.sum_cons, List.length_cons]
    have e : b * ((l.length + 1 : Nat) : Int) = b * (l.length : Int) + b := by push_cast; rw [Int.mul_add, Int.mul_one]
    omega
theorem sum_take_rng {l : List Int} {n : Nat} (h : wtsB l n = true) (hn : n ≤ 20) (i : Nat) : 0 ≤ (l.take i).sum ∧ (l.take i).sum ≤ 335544320 := by
  obtain ⟨h1, h2⟩ := wtsB_iff.1 h
  have a := sum_le (l := l.take i) fun x hx => h2 x (List.mem_of_mem_take hx)
  have b : (l.take i).length ≤ 20 := by rw [List.length_take]; omega
  omega
theorem hgt_rng {k : Kl} {tl td : List Int} (h1 : wtsB tl k.ls.length = true) (h2 : wtsB td k.ds.length = true) (hl : k.ls.length ≤ 20) (hd : k.ds.length ≤ 20) (v : Int) : 0 ≤ hgt k.ls.length tl td v ∧ hgt k.ls.length tl td v ≤ 335544320 := by
  unfold hgt
  split
  · exact sum_take_rng h1 hl _
  · exact sum_take_rng h2 hd _
end Go.Proofs.YtpgepfbdjefmdaaGreat
