/- What FireContradicts compares, as mathematics. No program is named here. -/
import Derived.Test.YtmiglaeabpaofaaJ2
namespace Go.Proofs.Ytmiglaeabpaofaa
theorem con_ends {f : Fi} (p : Spt) (h : fireI f = 0) : endsE f p = 1 ∨ endsE f p = if agreeB f f.ls then 0 else 9 := by
  unfold endsE knownE
  rw [if_neg (by simp [h])]
  unfold spotE
  cases spotB p
  · left; simp [firstE]
  · right; simp [firstE]
structure ConN (f : Fi) (c d n : Int) : Prop where
  one : n = c ∨ n = d
  way : withoutR f [n] = withF f (butL f.ls [n])
  ok : fireI (withF f (butL f.ls [n])) = 0
  none_ : clashR (withF f (butL f.ls [n])) = ⟨0, 0, false⟩
theorem con_math {f : Fi} (h : fireI f = 0) : (agreeB f f.ls = true ∧ clashR f = ⟨0, 0, false⟩ ∧ suspR f = [] ∧ ∀ a b, chkClashI f a b ≠ 0) ∨
    ∃ c d, clashR f = ⟨c, d, true⟩ ∧ agreeB f f.ls = false ∧ chkClashI f c d = 0 ∧ ∀ n ∈ suspR f, ConN f c d n := by
  have hok := fire_ok h
  cases ha : agreeB f f.ls with
  | true =>
    refine .inl ⟨rfl, by unfold clashR; rw [if_pos h, clash_none ha], by unfold suspR suspL; rw [if_pos h, if_pos ha], fun a b hc => ?_⟩
    rw [chk_ok hc] at ha; cases ha
  | false =>
    obtain ⟨x, hx, y, hy, hag, hc, _⟩ := clash_some ha
    refine .inr ⟨x.id, y.id, by unfold clashR; rw [if_pos h, hc], rfl, chk_of hok hx hy hag, fun n hn => ?_⟩
    unfold suspR suspL at hn
    rw [if_pos h, if_neg (by rw [ha]; simp)] at hn
    obtain ⟨z, _, hz, rfl⟩ := mem_ids.1 hn
    have hbo := but_ok hok [z.id]
    refine ⟨susp_pair hx hy hag hz, by unfold withoutR; rw [if_pos h], ok_fire hbo, ?_⟩
    unfold clashR
    rw [if_pos (ok_fire hbo)]
    refine clash_none (f := withF f (butL f.ls [z.id])) ?_
    show agreeB f (butL f.ls [z.id]) = true
    rw [but1_eq]; exact hz
end Go.Proofs.Ytmiglaeabpaofaa
