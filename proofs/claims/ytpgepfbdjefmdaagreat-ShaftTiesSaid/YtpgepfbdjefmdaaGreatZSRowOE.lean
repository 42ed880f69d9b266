import Derived.Test.YtpgepfbdjefmdaaGreatRows
import Derived.Test.YtpgepfbdjefmdaaGreatJ27
import Derived.Test.YtpgepfbdjefmdaaGreatJ29
import Derived.WalkKit
import Derived.ProofKit
import Derived.OpenShut
import Derived.Test.YtpgepfbdjefmdaaGreatJ30
namespace Go.Proofs.YtpgepfbdjefmdaaGreat
open Go.ChangeShapes Go.WideShapes Go.ChangeAt Go.RowKit Go.Deep
section
variable {H : Type} {enc : TypeId × Value → H} {w : World} {base b0 : Nat} {spare : Nat → Bool} {held : Bool} {r : Reach} {v : Value} {d : DataW H} {p : List MemPlace}
set_option maxRecDepth 100000 in
theorem open_Tr (hval : Value.okWide Tryz.prog w r b0 29 v) (h : DataW.Trod enc Tryz.prog w base spare held 29 v d p) : ∃ (A1 : Option Addr) (n1 c1 : Nat) (A2 : Option Addr) (n2 c2 : Nat), v = .agg #[.slice A1 n1 c1, .slice A2 n2 c2] ∧
    ((∃ tl td : List Int, tl.length = n1 ∧ td.length = n2 ∧ Truth w v tl td) ∨ 140737488355328 < n1 ∨ 140737488355328 < n2) := by
  have hu := Tryz.underlying29
  have hv : ∃ cs : List Value, v = .agg cs.toArray ∧ cs.length = Tryz.prog.cellsOf 29 := by
    unfold Value.okWide at hval
    split at hval
    · obtain ⟨cs, rfl, hc, _⟩ := hval
      exact ⟨cs.toList, by simp, by simpa using hc⟩
    · rename_i h2; rw [hu] at h2; cases h2
    · rename_i h1 h2; exact absurd hu (h1 _)
  obtain ⟨cs, rfl, hl⟩ := hv
  replace hl : cs.length = 2 := hl.trans (by kernel_rfl)
  obtain ⟨fuel, hf⟩ := h
  match cs, hl with
  | [c0, c1], _ =>
    obtain ⟨xs, k, _, _, hl2, hx, hall⟩ := DataW.trod_struct hu hf
    have hxl : xs.length = 2 := by rw [hx]; rfl
    have e0 : Tryz.prog.cellsOf 27 = 1 := by kernel_rfl
    have e1 : Tryz.prog.cellsOf 27 = 1 := by kernel_rfl
    have h0 : DataW.trod enc Tryz.prog w base spare held k 27 (([c0, c1].drop 0).take (Tryz.prog.cellsOf 27)) = some (xs[0]'(by omega)) := (hall 0 _ rfl).trans (List.getElem?_eq_getElem (by omega))
    rw [e0] at h0
    have h1 : DataW.trod enc Tryz.prog w base spare held k 27 (([c0, c1].drop 1).take (Tryz.prog.cellsOf 27)) = some (xs[1]'(by omega)) := (hall 1 _ rfl).trans (List.getElem?_eq_getElem (by omega))
    rw [e1] at h1
    obtain ⟨u0, hu0, hs0⟩ := open_rowsT (α := Int) (c := nC) (s := 1) 5 Tryz.underlying27 (by kernel_rfl) (by omega) (by kernel_rfl) (fun cs hl hi => by
      match cs, hl with
      | [y0], _ =>
        obtain ⟨z0, rfl, _⟩ := hi y0 (by simp)
        exact ⟨z0, rfl⟩) h0
    have e90 : c0 = u0 := by simpa using hu0
    subst e90
    obtain ⟨u1, hu1, hs1⟩ := open_rowsT (α := Int) (c := nC) (s := 1) 5 Tryz.underlying27 (by kernel_rfl) (by omega) (by kernel_rfl) (fun cs hl hi => by
      match cs, hl with
      | [y0], _ =>
        obtain ⟨z0, rfl, _⟩ := hi y0 (by simp)
        exact ⟨z0, rfl⟩) h1
    have e91 : c1 = u1 := by simpa using hu1
    subst e91
    obtain ⟨A1, n1, k1, rfl, s1⟩ := sl_slice hs0
    obtain ⟨A2, n2, k2, rfl, s2⟩ := sl_slice hs1
    refine ⟨A1, n1, k1, A2, n2, k2, rfl, ?_⟩
    rcases s1 with ⟨l1, rfl, t1⟩ | s1
    · rcases s2 with ⟨l2, rfl, t2⟩ | s2
      · exact .inl ⟨l1, l2, rfl, rfl, _, _, rfl, t1, t2⟩
      · exact .inr (.inr s2)
    · exact .inr (.inl s1)
end
end Go.Proofs.YtpgepfbdjefmdaaGreat
