import Derived.Test.YtnedcclmfokdnaaGreatJ2
import Derived.Test.YtnedcclmfokdnaaGreatJ8
import Derived.Test.YtnedcclmfokdnaaGreatJ5
namespace Go.Proofs.YtnedcclmfokdnaaGreat
open Go.RowKit
theorem made_by {l : List Rec} (hu : UpH l) {h : Int} {i : Nat} {x : Rec} (hx : l[i]? = some x) : x.hour ≤ h ↔ i < cntLe l h := by
  obtain ⟨a, b⟩ := cntLe_spec l h
  constructor
  · intro hh
    apply Classical.byContradiction
    intro hc
    have hl := (List.getElem?_eq_some_iff.1 hx).1
    have hz := List.getElem?_eq_getElem (l := l) (i := cntLe l h) (by omega)
    exact b _ hz (Int.le_trans (hu _ _ _ _ (by omega) hz hx) hh)
  · exact fun hi => a i x hi hx
end Go.Proofs.YtnedcclmfokdnaaGreat
