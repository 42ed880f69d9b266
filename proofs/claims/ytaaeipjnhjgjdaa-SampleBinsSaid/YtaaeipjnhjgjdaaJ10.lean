/- Texts joined: 3RowO. -/
import Derived.Test.YtaaeipjnhjgjdaaRows
import Derived.Test.YtaaeipjnhjgjdaaJ6
import Derived.Test.YtaaeipjnhjgjdaaJ7
import Derived.Test.YtaaeipjnhjgjdaaJ9
import Derived.WalkKit
import Derived.ProofKit
import Derived.OpenShut
/- What the arguments of the laws of layer 3 are. -/
namespace Go.Proofs.Ytaaeipjnhjgjdaa
open Go.ChangeShapes Go.WideShapes Go.ChangeAt Go.RowKit Go.Deep
theorem row_own : ownKnob Try.prog.godebug = none := by kernel_rfl
section
variable {H : Type} {enc : TypeId × Value → H} {w : World} {base b0 : Nat} {spare : Nat → Bool} {held : Bool} {r : Reach} {v : Value} {d : DataW H} {p : List MemPlace}
theorem open_agg {P : Program} {t : TypeId} (n : Nat) (ha : allInts P n t = true) (hs : (match P.underlying t with | some (.struct _) => true | some (.array _ _) => true | _ => false) = true)
    (hval : Value.okWide P w r b0 t v) (h : DataW.Trod enc P w base spare held t v d p) : ∃ cs : List Value, v = .agg cs.toArray ∧ cs.length = P.cellsOf t ∧ ∀ u ∈ cs, IsInt u := by
  have hn := open_nums n ha h
  unfold Value.okWide at hval
  split at hval
  · obtain ⟨cs, rfl, hc, _⟩ := hval
    exact ⟨cs.toList, by simp, by simpa using hc, by simpa [Value.cells] using hn⟩
  · obtain ⟨cs, rfl, hc, _⟩ := hval
    exact ⟨cs.toList, by simp, by simpa using hc, by simpa [Value.cells] using hn⟩
  · rename_i h1 h2
    split at hs
    · rename_i fs hu; exact absurd hu (h1 fs)
    · rename_i m e hu; exact absurd hu (h2 m e)
    · cases hs
set_option maxRecDepth 100000 in
theorem open_K3 (hval : Value.okWide Try.prog w r b0 23 v) (h : DataW.Trod enc Try.prog w base spare held 23 v d p) : ∃ x : K3, v = k3V x := by
  obtain ⟨cs, rfl, hl, hi⟩ := open_agg 3 (by kernel_rfl) (by kernel_rfl) hval h
  replace hl : cs.length = 3 := hl.trans (by kernel_rfl)
  match cs, hl with
  | [a, b, c], _ =>
    obtain ⟨x, rfl, _⟩ := hi a (by simp)
    obtain ⟨y, rfl, _⟩ := hi b (by simp)
    obtain ⟨z, rfl, _⟩ := hi c (by simp)
    exact ⟨⟨x, y, z⟩, rfl⟩
end

instance : Inhabited Bt := ⟨zeroBt⟩
section
variable {H : Type} {enc : TypeId × Value → H} {w : World} {base b0 : Nat} {spare : Nat → Bool} {held : Bool} {r : Reach} {v : Value} {d : DataW H} {p : List MemPlace}
set_option maxRecDepth 100000 in
theorem open_Bts (hval : Value.okWide Try.prog w r b0 66 v) (h : DataW.Trod enc Try.prog w base spare held 66 v d p) : (∃ l : List Bt, Bts w w.heap.size v l) ∨ ∃ A n cap, v = .slice A n cap ∧ 140737488355328 < n := by
  refine open_rowsS 5 Try.underlying66 (by kernel_rfl) (by omega) (by kernel_rfl) (fun cs hl hi => ?_) hval h
  match cs, hl with
  | [c0, c1, c2, c3, c4, c5, c6, c7, c8, c9], _ =>
    obtain ⟨x0, rfl, _⟩ := hi c0 (by simp)
    obtain ⟨x1, rfl, _⟩ := hi c1 (by simp)
    obtain ⟨x2, rfl, _⟩ := hi c2 (by simp)
    obtain ⟨x3, rfl, _⟩ := hi c3 (by simp)
    obtain ⟨x4, rfl, _⟩ := hi c4 (by simp)
    obtain ⟨x5, rfl, _⟩ := hi c5 (by simp)
    obtain ⟨x6, rfl, _⟩ := hi c6 (by simp)
    obtain ⟨x7, rfl, _⟩ := hi c7 (by simp)
    obtain ⟨x8, rfl, _⟩ := hi c8 (by simp)
    obtain ⟨x9, rfl, _⟩ := hi c9 (by simp)
    exact ⟨⟨x0, ⟨x1, x2, x3⟩, ⟨x4, x5⟩, ⟨x6, x7⟩, ⟨x8, x9⟩⟩, rfl⟩
theorem u8_of {n : Int} (h : (Lit.int .u8 n).wf = true) : 0 ≤ n ∧ n ≤ 255 := by
  simp [Lit.wf, IntKind.min, IntKind.max, IntKind.signed, IntKind.bits] at h
  omega
set_option maxRecDepth 100000 in
theorem open_Rt (hval : Value.okWide Try.prog w r b0 53 v) (h : DataW.Trod enc Try.prog w base spare held 53 v d p) : ∃ x : Rt, v = rtV x := by
  obtain ⟨cs, rfl, hl, hi⟩ := open_agg 5 (by kernel_rfl) (by kernel_rfl) hval h
  replace hl : cs.length = 2 := hl.trans (by kernel_rfl)
  match cs, hl with
  | [c0, c1], _ =>
    obtain ⟨x0, rfl, _⟩ := hi c0 (by simp)
    obtain ⟨x1, rfl, _⟩ := hi c1 (by simp)
    exact ⟨⟨x0, x1⟩, rfl⟩
set_option maxRecDepth 100000 in
theorem open_Sp (hval : Value.okWide Try.prog w r b0 31 v) (h : DataW.Trod enc Try.prog w base spare held 31 v d p) : ∃ x : Sp, v = spV x := by
  obtain ⟨cs, rfl, hl, hi⟩ := open_agg 5 (by kernel_rfl) (by kernel_rfl) hval h
  replace hl : cs.length = 2 := hl.trans (by kernel_rfl)
  match cs, hl with
  | [c0, c1], _ =>
    obtain ⟨x0, rfl, _⟩ := hi c0 (by simp)
    obtain ⟨x1, rfl, _⟩ := hi c1 (by simp)
    exact ⟨⟨x0, x1⟩, rfl⟩
set_option maxRecDepth 100000 in
theorem open_Tr (hval : Value.okWide Try.prog w r b0 80 v) (h : DataW.Trod enc Try.prog w base spare held 80 v d p) : ∃ x : Tr, v = trV x := by
  obtain ⟨cs, rfl, hl, hi⟩ := open_agg 5 (by kernel_rfl) (by kernel_rfl) hval h
  replace hl : cs.length = 2 := hl.trans (by kernel_rfl)
  match cs, hl with
  | [c0, c1], _ =>
    obtain ⟨x0, rfl, _⟩ := hi c0 (by simp)
    obtain ⟨x1, rfl, _⟩ := hi c1 (by simp)
    exact ⟨⟨x0, x1⟩, rfl⟩
set_option maxRecDepth 100000 in
theorem open_Db (hval : Value.okWide Try.prog w r b0 92 v) (h : DataW.Trod enc Try.prog w base spare held 92 v d p) : ∃ x : Db, v = dbV x := by
  obtain ⟨cs, rfl, hl, hi⟩ := open_agg 5 (by kernel_rfl) (by kernel_rfl) hval h
  replace hl : cs.length = 5 := hl.trans (by kernel_rfl)
  match cs, hl with
  | [c0, c1, c2, c3, c4], _ =>
    obtain ⟨x0, rfl, _⟩ := hi c0 (by simp)
    obtain ⟨x1, rfl, _⟩ := hi c1 (by simp)
    obtain ⟨x2, rfl, _⟩ := hi c2 (by simp)
    obtain ⟨x3, rfl, _⟩ := hi c3 (by simp)
    obtain ⟨x4, rfl, _⟩ := hi c4 (by simp)
    exact ⟨⟨x0, x1, x2, x3, x4⟩, rfl⟩
set_option maxRecDepth 100000 in
theorem open_Bt (hval : Value.okWide Try.prog w r b0 34 v) (h : DataW.Trod enc Try.prog w base spare held 34 v d p) : ∃ x : Bt, v = btV x := by
  obtain ⟨cs, rfl, hl, hi⟩ := open_agg 5 (by kernel_rfl) (by kernel_rfl) hval h
  replace hl : cs.length = 10 := hl.trans (by kernel_rfl)
  match cs, hl with
  | [c0, c1, c2, c3, c4, c5, c6, c7, c8, c9], _ =>
    obtain ⟨x0, rfl, _⟩ := hi c0 (by simp)
    obtain ⟨x1, rfl, _⟩ := hi c1 (by simp)
    obtain ⟨x2, rfl, _⟩ := hi c2 (by simp)
    obtain ⟨x3, rfl, _⟩ := hi c3 (by simp)
    obtain ⟨x4, rfl, _⟩ := hi c4 (by simp)
    obtain ⟨x5, rfl, _⟩ := hi c5 (by simp)
    obtain ⟨x6, rfl, _⟩ := hi c6 (by simp)
    obtain ⟨x7, rfl, _⟩ := hi c7 (by simp)
    obtain ⟨x8, rfl, _⟩ := hi c8 (by simp)
    obtain ⟨x9, rfl, _⟩ := hi c9 (by simp)
    exact ⟨⟨x0, ⟨x1, x2, x3⟩, ⟨x4, x5⟩, ⟨x6, x7⟩, ⟨x8, x9⟩⟩, rfl⟩
end
end Go.Proofs.Ytaaeipjnhjgjdaa
