/- Texts joined: FRowO. -/
import Derived.Test.YtjpoacffnpgjdaaGreatRows
import Derived.Test.YtjpoacffnpgjdaaGreatJ21
import Derived.Test.YtjpoacffnpgjdaaGreatJ34
import Derived.WalkKit
import Derived.ProofKit
import Derived.OpenShut
/- What the arguments of the laws of layer 2 are. -/
namespace Go.Proofs.YtjpoacffnpgjdaaGreat
open Go.ChangeShapes Go.WideShapes Go.ChangeAt Go.RowKit Go.Deep
theorem row_own : ownKnob Tryz.prog.godebug = none := by kernel_rfl
section
variable {H : Type} {enc : TypeId × Value → H} {w : World} {base b0 : Nat} {spare : Nat → Bool} {held : Bool} {r : Reach} {v : Value} {d : DataW H} {p : List MemPlace}
theorem open_agg {P : Program} {t : TypeId} (n : Nat) (ha : allInts P n t = true) (hs : (match P.underlying t with | some (.struct _) => true | some (.array _ _) => true | _ => false) = true)
    (hval : Value.okWide P w r b0 t v) (h : DataW.Trod enc P w base spare held t v d p) : ∃ cs : List Value, v = .agg cs.toArray ∧ cs.length = P.cellsOf t ∧ ∀ u ∈ cs, IsInt u := by
  have hn := open_nums n ha h
  unfold Value.okWide at hval
  split at hval
  · obtain ⟨cs, rfl, hc, _⟩ := hval
    exact ⟨cs.toList, by simp, by simpa using hc, by simpa [Value.cells] using hn⟩
  · obtain ⟨cs, rfl, hc, _⟩ := hval
    exact ⟨cs.toList, by simp, by simpa using hc, by simpa [Value.cells] using hn⟩
  · rename_i h1 h2
    split at hs
    · rename_i fs hu; exact absurd hu (h1 fs)
    · rename_i m e hu; exact absurd hu (h2 m e)
    · cases hs
set_option maxRecDepth 100000 in
theorem open_Spt (hval : Value.okWide Tryz.prog w r b0 26 v) (h : DataW.Trod enc Tryz.prog w base spare held 26 v d p) : ∃ x : Spt, v = sV x := by
  obtain ⟨cs, rfl, hl, hi⟩ := open_agg 5 (by kernel_rfl) (by kernel_rfl) hval h
  replace hl : cs.length = 2 := hl.trans (by kernel_rfl)
  match cs, hl with
  | [c0, c1], _ =>
    obtain ⟨x0, rfl, _⟩ := hi c0 (by simp)
    obtain ⟨x1, rfl, _⟩ := hi c1 (by simp)
    exact ⟨⟨x0, x1⟩, rfl⟩
set_option maxRecDepth 100000 in
theorem open_Lk (hval : Value.okWide Tryz.prog w r b0 90 v) (h : DataW.Trod enc Tryz.prog w base spare held 90 v d p) : ∃ x : Lk, v = lkV x := by
  obtain ⟨cs, rfl, hl, hi⟩ := open_agg 5 (by kernel_rfl) (by kernel_rfl) hval h
  replace hl : cs.length = 5 := hl.trans (by kernel_rfl)
  match cs, hl with
  | [c0, c1, c2, c3, c4], _ =>
    obtain ⟨x0, rfl, _⟩ := hi c0 (by simp)
    obtain ⟨x1, rfl, _⟩ := hi c1 (by simp)
    obtain ⟨x2, rfl, _⟩ := hi c2 (by simp)
    obtain ⟨x3, rfl, _⟩ := hi c3 (by simp)
    obtain ⟨x4, rfl, _⟩ := hi c4 (by simp)
    exact ⟨⟨x0, x1, x2, x3, x4⟩, rfl⟩
set_option maxRecDepth 100000 in
theorem open_Bnd (hval : Value.okWide Tryz.prog w r b0 56 v) (h : DataW.Trod enc Tryz.prog w base spare held 56 v d p) : ∃ x : Bnd, v = bndV x := by
  obtain ⟨cs, rfl, hl, hi⟩ := open_agg 5 (by kernel_rfl) (by kernel_rfl) hval h
  replace hl : cs.length = 4 := hl.trans (by kernel_rfl)
  match cs, hl with
  | [c0, c1, c2, c3], _ =>
    obtain ⟨x0, rfl, _⟩ := hi c0 (by simp)
    obtain ⟨x1, rfl, _⟩ := hi c1 (by simp)
    obtain ⟨x2, rfl, _⟩ := hi c2 (by simp)
    obtain ⟨x3, rfl, _⟩ := hi c3 (by simp)
    exact ⟨⟨x0, x1, x2, x3⟩, rfl⟩
set_option maxRecDepth 100000 in
theorem open_Spts (hval : Value.okWide Tryz.prog w r b0 66 v) (h : DataW.Trod enc Tryz.prog w base spare held 66 v d p) : (∃ l : List Spt, Spts w w.heap.size v l) ∨ ∃ A n cap, v = .slice A n cap ∧ 140737488355328 < n := by
  refine open_rowsS 5 Tryz.underlying66 (by kernel_rfl) (by omega) (by kernel_rfl) (fun cs hl hi => ?_) hval h
  match cs, hl with
  | [c0, c1], _ =>
    obtain ⟨x0, rfl, _⟩ := hi c0 (by simp)
    obtain ⟨x1, rfl, _⟩ := hi c1 (by simp)
    exact ⟨⟨x0, x1⟩, rfl⟩
set_option maxRecDepth 100000 in
theorem open_Ints (hval : Value.okWide Tryz.prog w r b0 27 v) (h : DataW.Trod enc Tryz.prog w base spare held 27 v d p) : (∃ l : List Int, Ints w w.heap.size v l) ∨ ∃ A n cap, v = .slice A n cap ∧ 140737488355328 < n := by
  refine open_rowsS 5 Tryz.underlying27 (by kernel_rfl) (by omega) (by kernel_rfl) (fun cs hl hi => ?_) hval h
  match cs, hl with
  | [c0], _ =>
    obtain ⟨x0, rfl, _⟩ := hi c0 (by simp)
    exact ⟨x0, rfl⟩
set_option maxRecDepth 100000 in
theorem open_Fi (hval : Value.okWide Tryz.prog w r b0 24 v) (h : DataW.Trod enc Tryz.prog w base spare held 24 v d p) : (∃ (f : Fi) (vl : Value), v = fiV f vl ∧ Lks w w.heap.size vl f.ls) ∨ ∃ (f : Fi) (A : Option Addr) (n cap : Nat), v = fiV f (.slice A n cap) ∧ 140737488355328 < n := by
  have hu := Tryz.underlying24
  have hv : ∃ cs : List Value, v = .agg cs.toArray ∧ cs.length = Tryz.prog.cellsOf 24 := by
    unfold Value.okWide at hval
    split at hval
    · obtain ⟨cs, rfl, hc, _⟩ := hval
      exact ⟨cs.toList, by simp, by simpa using hc⟩
    · rename_i h2; rw [hu] at h2; cases h2
    · rename_i h1 h2; exact absurd hu (h1 _)
  obtain ⟨cs, rfl, hl⟩ := hv
  replace hl : cs.length = 5 := hl.trans (by kernel_rfl)
  obtain ⟨fuel, hf⟩ := h
  match cs, hl with
  | [c0, c1, c2, c3, c4], _ =>
    obtain ⟨xs, k, _, _, hl2, hx, hall⟩ := DataW.trod_struct hu hf
    have e1 : Tryz.prog.cellsOf 3 = 1 := by kernel_rfl
    have e2 : Tryz.prog.cellsOf 22 = 1 := by kernel_rfl
    have hxl : xs.length = 5 := by rw [hx]; rfl
    have h0 : DataW.trod enc Tryz.prog w base spare held k 3 (([c0, c1, c2, c3, c4].drop 0).take (Tryz.prog.cellsOf 3)) = some (xs[0]'(by omega)) := (hall 0 _ rfl).trans (List.getElem?_eq_getElem (by omega))
    rw [e1] at h0
    have h1 : DataW.trod enc Tryz.prog w base spare held k 3 (([c0, c1, c2, c3, c4].drop 1).take (Tryz.prog.cellsOf 3)) = some (xs[1]'(by omega)) := (hall 1 _ rfl).trans (List.getElem?_eq_getElem (by omega))
    rw [e1] at h1
    have h2 : DataW.trod enc Tryz.prog w base spare held k 3 (([c0, c1, c2, c3, c4].drop 2).take (Tryz.prog.cellsOf 3)) = some (xs[2]'(by omega)) := (hall 2 _ rfl).trans (List.getElem?_eq_getElem (by omega))
    rw [e1] at h2
    have h3 : DataW.trod enc Tryz.prog w base spare held k 3 (([c0, c1, c2, c3, c4].drop 3).take (Tryz.prog.cellsOf 3)) = some (xs[3]'(by omega)) := (hall 3 _ rfl).trans (List.getElem?_eq_getElem (by omega))
    rw [e1] at h3
    have h4 : DataW.trod enc Tryz.prog w base spare held k 22 (([c0, c1, c2, c3, c4].drop 4).take (Tryz.prog.cellsOf 22)) = some (xs[4]'(by omega)) := (hall 4 _ rfl).trans (List.getElem?_eq_getElem (by omega))
    rw [e2] at h4
    have ai : allInts Tryz.prog 1 3 = true := by kernel_rfl
    obtain ⟨x0, rfl, _⟩ := ints_of_trod 1 3 k _ _ ai h0 c0 (by simp)
    obtain ⟨x1, rfl, _⟩ := ints_of_trod 1 3 k _ _ ai h1 c1 (by simp)
    obtain ⟨x2, rfl, _⟩ := ints_of_trod 1 3 k _ _ ai h2 c2 (by simp)
    obtain ⟨x3, rfl, _⟩ := ints_of_trod 1 3 k _ _ ai h3 c3 (by simp)
    obtain ⟨u, hu4, hs⟩ := open_rowsT (α := Lk) (c := lkC) (s := 5) 5 Tryz.underlying22 (by kernel_rfl) (by omega) (by kernel_rfl) (fun cs hl hi => by
      match cs, hl with
      | [y0, y1, y2, y3, y4], _ =>
        obtain ⟨z0, rfl, _⟩ := hi y0 (by simp)
        obtain ⟨z1, rfl, _⟩ := hi y1 (by simp)
        obtain ⟨z2, rfl, _⟩ := hi y2 (by simp)
        obtain ⟨z3, rfl, _⟩ := hi y3 (by simp)
        obtain ⟨z4, rfl, _⟩ := hi y4 (by simp)
        exact ⟨⟨z0, z1, z2, z3, z4⟩, rfl⟩) h4
    have e4 : c4 = u := by
      simpa using hu4
    subst e4
    rcases hs with ⟨l, hl⟩ | ⟨A, n, cap, rfl, hbig⟩
    · exact .inl ⟨⟨x0, x1, x2, x3, l⟩, _, rfl, hl⟩
    · exact .inr ⟨⟨x0, x1, x2, x3, []⟩, A, n, cap, rfl, hbig⟩
theorem u8_of {n : Int} (h : (Lit.int .u8 n).wf = true) : 0 ≤ n ∧ n ≤ 255 := by
  simp [Lit.wf, IntKind.min, IntKind.max, IntKind.signed, IntKind.bits] at h
  omega
end
end Go.Proofs.YtjpoacffnpgjdaaGreat
