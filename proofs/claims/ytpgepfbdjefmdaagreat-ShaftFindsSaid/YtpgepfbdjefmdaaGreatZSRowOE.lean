import Derived.Test.YtpgepfbdjefmdaaGreatRows
import Derived.Test.YtpgepfbdjefmdaaGreatJ27
import Derived.Test.YtpgepfbdjefmdaaGreatJ29
import Derived.WalkKit
import Derived.ProofKit
import Derived.OpenShut
import Derived.Test.YtpgepfbdjefmdaaGreatJ30
import Derived.Test.YtpgepfbdjefmdaaGreatZOpenSE
namespace Go.Proofs.YtpgepfbdjefmdaaGreat
open Go.ChangeShapes Go.WideShapes Go.ChangeAt Go.RowKit Go.Deep
section
variable {H : Type} {enc : TypeId × Value → H} {w : World} {base b0 : Nat} {spare : Nat → Bool} {held : Bool} {r : Reach} {v : Value} {d : DataW H} {p : List MemPlace}
set_option maxRecDepth 100000 in
theorem open_Is (hval : Value.okWide Tryz.prog w r b0 27 v) (h : DataW.Trod enc Tryz.prog w base spare held 27 v d p) : ∃ (A : Option Addr) (n c : Nat), v = .slice A n c ∧ ((∃ l : List Int, l.length = n ∧ Ints w w.heap.size v l) ∨ 140737488355328 < n) := by
  have h9 : (∃ l : List Int, Ints w w.heap.size v l) ∨ ∃ A n cap, v = .slice A n cap ∧ 140737488355328 < n := by
    refine open_rowsS 5 Tryz.underlying27 (by kernel_rfl) (by omega) (by kernel_rfl) (fun cs hl hi => ?_) hval h
    match cs, hl with
    | [c0], _ =>
      obtain ⟨x0, rfl, _⟩ := hi c0 (by simp)
      exact ⟨x0, rfl⟩
  obtain ⟨A, n, c, rfl, s⟩ := sl_slice h9
  exact ⟨A, n, c, rfl, s.imp (fun ⟨l, e, h⟩ => ⟨l, e.symm, h⟩) id⟩
end
end Go.Proofs.YtpgepfbdjefmdaaGreat
