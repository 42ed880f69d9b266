import Derived.Test.YtpgepfbdjefmdaaGreatRows
import Derived.Test.YtpgepfbdjefmdaaGreatJ27
import Derived.Test.YtpgepfbdjefmdaaGreatJ29
import Derived.WalkKit
import Derived.ProofKit
import Derived.OpenShut
import Derived.Test.YtpgepfbdjefmdaaGreatJ30
import Derived.Test.YtpgepfbdjefmdaaGreatZOpenSE
namespace Go.Proofs.YtpgepfbdjefmdaaGreat
open Go.ChangeShapes Go.WideShapes Go.ChangeAt Go.RowKit Go.Deep
section
variable {H : Type} {enc : TypeId × Value → H} {w : World} {base b0 : Nat} {spare : Nat → Bool} {held : Bool} {r : Reach} {v : Value} {d : DataW H} {p : List MemPlace}
set_option maxRecDepth 100000 in
theorem open_Tr (hval : Value.okWide Tryz.prog w r b0 29 v) (h : DataW.Trod enc Tryz.prog w base spare held 29 v d p) : ∃ (A1 : Option Addr) (n1 c1 : Nat) (A2 : Option Addr) (n2 c2 : Nat), v = .agg #[.slice A1 n1 c1, .slice A2 n2 c2] ∧
    ((∃ tl td : List Int, tl.length = n1 ∧ td.length = n2 ∧ Truth w v tl td) ∨ 140737488355328 < n1 ∨ 140737488355328 < n2) := by
  have hu := Tryz.underlying29
  have hv : ∃ cs : List Value, v = .agg cs.toArray ∧ cs.length = Tryz.prog.cellsOf 29 := by
    unfold Value.okWide at hval
    split at hval
    · obtain ⟨cs, rfl, hc, _⟩ := hval
      exact ⟨cs.toList, by simp, by simpa using hc⟩
    · rename_i h2; rw [hu] at h2; cases h2
    · rename_i h1 h2; exact absurd hu (h1 _)
  obtain ⟨cs, rfl, hl⟩ := hv
  replace hl : cs.length = 2 := hl.trans (by kernel_rfl)
  obtain ⟨fuel, hf⟩ := h
  match cs, hl with
  | [c0, c1], _ =>
    obtain ⟨xs, k, _, _, hl2, hx, hall⟩ := DataW.trod_struct hu hf
    have hxl : xs.length = 2 := by rw [hx]; rfl
    have e0 : Tryz.prog.cellsOf 27 = 1 := by kernel_rfl
    have e1 : Tryz.prog.cellsOf 27 = 1 := by kernel_rfl
    have h0 : DataW.trod enc Tryz.prog w base spare held k 27 (([c0, c1].drop 0).take (Tryz.prog.cellsOf 27)) = some (xs[0]'(by omega)) := (hall 0 _ rfl).trans (List.getElem?_eq_getElem (by omega))
    rw [e0] at h0
    have h1 : DataW.trod enc Tryz.prog w base spare held k 27 (([c0, c1].drop 1).take (Tryz.prog.cellsOf 27)) = some (xs[1]'(by omega)) := (hall 1 _ rfl).trans (List.getElem?_eq_getElem (by omega))
    rw [e1] at h1
    obtain ⟨u0, hu0, hs0⟩ := open_rowsT (α := Int) (c := nC) (s := 1) 5 Tryz.underlying27 (by kernel_rfl) (by omega) (by kernel_rfl) (fun cs hl hi => by
      match cs, hl with
      | [y0], _ =>
        obtain ⟨z0, rfl, _⟩ := hi y0 (by simp)
        exact ⟨z0, rfl⟩) h0
    have e90 : c0 = u0 := by simpa using hu0
    subst e90
    obtain ⟨u1, hu1, hs1⟩ := open_rowsT (α := Int) (c := nC) (s := 1) 5 Tryz.underlying27 (by kernel_rfl) (by omega) (by kernel_rfl) (fun cs hl hi => by
      match cs, hl with
      | [y0], _ =>
        obtain ⟨z0, rfl, _⟩ := hi y0 (by simp)
        exact ⟨z0, rfl⟩) h1
    have e91 : c1 = u1 := by simpa using hu1
    subst e91
    obtain ⟨A1, n1, k1, rfl, s1⟩ := sl_slice hs0
    obtain ⟨A2, n2, k2, rfl, s2⟩ := sl_slice hs1
    refine ⟨A1, n1, k1, A2, n2, k2, rfl, ?_⟩
    rcases s1 with ⟨l1, rfl, t1⟩ | s1
    · rcases s2 with ⟨l2, rfl, t2⟩ | s2
      · exact .inl ⟨l1, l2, rfl, rfl, _, _, rfl, t1, t2⟩
      · exact .inr (.inr s2)
    · exact .inr (.inl s1)
set_option maxRecDepth 100000 in
theorem open_Ch (hval : Value.okWide Tryz.prog w r b0 54 v) (h : DataW.Trod enc Tryz.prog w base spare held 54 v d p) : ∃ (m : Int) (A0 : Option Addr) (n0 c0 : Nat) (A1 : Option Addr) (n1 c1 : Nat) (A2 : Option Addr) (n2 c2 : Nat), v = .agg #[.int .i64 m, .slice A0 n0 c0, .slice A1 n1 c1, .slice A2 n2 c2] ∧
    ((∃ pp tl td : List Int, pp.length = n0 ∧ tl.length = n1 ∧ td.length = n2 ∧ Ints w w.heap.size (.slice A0 n0 c0) pp ∧ Truth w (.agg #[.slice A1 n1 c1, .slice A2 n2 c2]) tl td) ∨ 140737488355328 < n0 ∨ 140737488355328 < n1 ∨ 140737488355328 < n2) := by
  have hu := Tryz.underlying54
  have hv : ∃ cs : List Value, v = .agg cs.toArray ∧ cs.length = Tryz.prog.cellsOf 54 := by
    unfold Value.okWide at hval
    split at hval
    · obtain ⟨cs, rfl, hc, _⟩ := hval
      exact ⟨cs.toList, by simp, by simpa using hc⟩
    · rename_i h2; rw [hu] at h2; cases h2
    · rename_i h1 h2; exact absurd hu (h1 _)
  obtain ⟨cs, rfl, hl⟩ := hv
  replace hl : cs.length = 4 := hl.trans (by kernel_rfl)
  obtain ⟨fuel, hf⟩ := h
  match cs, hl with
  | [c0, c1, c2, c3], _ =>
    obtain ⟨xs, k, _, _, hl2, hx, hall⟩ := DataW.trod_struct hu hf
    have hxl : xs.length = 3 := by rw [hx]; rfl
    have e0 : Tryz.prog.cellsOf 3 = 1 := by kernel_rfl
    have e1 : Tryz.prog.cellsOf 27 = 1 := by kernel_rfl
    have e2 : Tryz.prog.cellsOf 29 = 2 := by kernel_rfl
    have h0 : DataW.trod enc Tryz.prog w base spare held k 3 (([c0, c1, c2, c3].drop 0).take (Tryz.prog.cellsOf 3)) = some (xs[0]'(by omega)) := (hall 0 _ rfl).trans (List.getElem?_eq_getElem (by omega))
    rw [e0] at h0
    have h1 : DataW.trod enc Tryz.prog w base spare held k 27 (([c0, c1, c2, c3].drop 1).take (Tryz.prog.cellsOf 27)) = some (xs[1]'(by omega)) := (hall 1 _ rfl).trans (List.getElem?_eq_getElem (by omega))
    rw [e1] at h1
    have h2 : DataW.trod enc Tryz.prog w base spare held k 29 (([c0, c1, c2, c3].drop 2).take (Tryz.prog.cellsOf 29)) = some (xs[2]'(by omega)) := (hall 2 _ rfl).trans (List.getElem?_eq_getElem (by omega))
    rw [e2] at h2
    have ai : allInts Tryz.prog 1 3 = true := by kernel_rfl
    obtain ⟨x0, rfl, _⟩ := ints_of_trod 1 3 k _ _ ai h0 c0 (by simp)
    obtain ⟨u1, hu1, hs1⟩ := open_rowsT (α := Int) (c := nC) (s := 1) 5 Tryz.underlying27 (by kernel_rfl) (by omega) (by kernel_rfl) (fun cs hl hi => by
      match cs, hl with
      | [y0], _ =>
        obtain ⟨z0, rfl, _⟩ := hi y0 (by simp)
        exact ⟨z0, rfl⟩) h1
    have e91 : c1 = u1 := by simpa using hu1
    subst e91
    have hu3 := Tryz.underlying29
    have h2' : DataW.trod enc Tryz.prog w base spare held k 29 [c2, c3] = some (xs[2]'(by omega)) := h2
    obtain ⟨ys, k9, _, _, hl9, hx9, hall9⟩ := DataW.trod_struct hu3 h2'
    have hyl : ys.length = 2 := by rw [hx9]; rfl
    have e8 : Tryz.prog.cellsOf 27 = 1 := by kernel_rfl
    have h5 : DataW.trod enc Tryz.prog w base spare held k9 27 (([c2, c3].drop 0).take (Tryz.prog.cellsOf 27)) = some (ys[0]'(by omega)) := (hall9 0 _ rfl).trans (List.getElem?_eq_getElem (by omega))
    rw [e8] at h5
    have h6 : DataW.trod enc Tryz.prog w base spare held k9 27 (([c2, c3].drop 1).take (Tryz.prog.cellsOf 27)) = some (ys[1]'(by omega)) := (hall9 1 _ rfl).trans (List.getElem?_eq_getElem (by omega))
    rw [e8] at h6
    obtain ⟨u5, hu5, hs5⟩ := open_rowsT (α := Int) (c := nC) (s := 1) 5 Tryz.underlying27 (by kernel_rfl) (by omega) (by kernel_rfl) (fun cs hl hi => by
      match cs, hl with
      | [y0], _ =>
        obtain ⟨z0, rfl, _⟩ := hi y0 (by simp)
        exact ⟨z0, rfl⟩) h5
    have e95 : c2 = u5 := by simpa using hu5
    subst e95
    obtain ⟨u6, hu6, hs6⟩ := open_rowsT (α := Int) (c := nC) (s := 1) 5 Tryz.underlying27 (by kernel_rfl) (by omega) (by kernel_rfl) (fun cs hl hi => by
      match cs, hl with
      | [y0], _ =>
        obtain ⟨z0, rfl, _⟩ := hi y0 (by simp)
        exact ⟨z0, rfl⟩) h6
    have e96 : c3 = u6 := by simpa using hu6
    subst e96
    obtain ⟨A0, n0, k0, rfl, s0⟩ := sl_slice hs1
    obtain ⟨A1, n1, k1, rfl, s1⟩ := sl_slice hs5
    obtain ⟨A2, n2, k2, rfl, s2⟩ := sl_slice hs6
    refine ⟨x0, A0, n0, k0, A1, n1, k1, A2, n2, k2, rfl, ?_⟩
    rcases s0 with ⟨l0, rfl, t0⟩ | s0
    · rcases s1 with ⟨l1, rfl, t1⟩ | s1
      · rcases s2 with ⟨l2, rfl, t2⟩ | s2
        · exact .inl ⟨l0, l1, l2, rfl, rfl, rfl, t0, _, _, rfl, t1, t2⟩
        · exact .inr (.inr (.inr s2))
      · exact .inr (.inr (.inl s1))
    · exact .inr (.inl s0)
set_option maxRecDepth 100000 in
theorem open_Is (hval : Value.okWide Tryz.prog w r b0 27 v) (h : DataW.Trod enc Tryz.prog w base spare held 27 v d p) : ∃ (A : Option Addr) (n c : Nat), v = .slice A n c ∧ ((∃ l : List Int, l.length = n ∧ Ints w w.heap.size v l) ∨ 140737488355328 < n) := by
  have h9 : (∃ l : List Int, Ints w w.heap.size v l) ∨ ∃ A n cap, v = .slice A n cap ∧ 140737488355328 < n := by
    refine open_rowsS 5 Tryz.underlying27 (by kernel_rfl) (by omega) (by kernel_rfl) (fun cs hl hi => ?_) hval h
    match cs, hl with
    | [c0], _ =>
      obtain ⟨x0, rfl, _⟩ := hi c0 (by simp)
      exact ⟨x0, rfl⟩
  obtain ⟨A, n, c, rfl, s⟩ := sl_slice h9
  exact ⟨A, n, c, rfl, s.imp (fun ⟨l, e, h⟩ => ⟨l, e.symm, h⟩) id⟩
end
end Go.Proofs.YtpgepfbdjefmdaaGreat
