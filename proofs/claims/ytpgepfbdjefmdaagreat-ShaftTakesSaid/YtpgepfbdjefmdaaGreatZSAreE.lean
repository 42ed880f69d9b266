import Derived.Test.YtpgepfbdjefmdaaGreatJ22
namespace Go.Proofs.YtpgepfbdjefmdaaGreat
open Go Go.RowKit Go.Shelf
theorem all_takeW_no {α : Type} {p : α → Bool} {l : List α} {j : Nat} {x : α} (hx : l[j]? = some x) (h : p x = false) : l.all p = false := by
  rw [Bool.eq_false_iff]; intro ha
  rw [List.all_eq_true.1 ha x (List.mem_of_getElem? hx)] at h; cases h
theorem all_takeW_yes {α : Type} {p : α → Bool} {l : List α} {j : Nat} {x : α} (hx : l[j]? = some x) (h : p x = true) (ht : (l.take j).all p = true) : (l.take (j + 1)).all p = true := by
  rw [take_snoc hx, List.all_append, ht]; simp [h]
def wtB (n : Int) : Bool := inB n 0 16777216
end Go.Proofs.YtpgepfbdjefmdaaGreat
