import Derived.Test.YtnedcclmfokdnaaGreatJ2
namespace Go.Proofs.YtnedcclmfokdnaaGreat
open Go.RowKit
theorem canZ_comm {l : List Tie} {a b : Pt} {z : Int} : CanZ l a b z ↔ CanZ l b a z := by
  rw [canZ_iff, canZ_iff]
  constructor
  · rintro ⟨g, h, h1, h2, h3, h4⟩; exact ⟨g, h, h4, h2 |> fun _ => by omega, by omega, h1⟩
  · rintro ⟨g, h, h1, h2, h3, h4⟩; exact ⟨g, h, h4, h2 |> fun _ => by omega, by omega, h1⟩
theorem mostIs_comm {l : List Tie} {a b : Pt} {m : Int} (h : MostIs l a b m) : MostIs l b a m :=
  ⟨h.1, h.2.1.imp id canZ_comm.1, h.2.2.imp id fun h' h2 => h' (canZ_comm.1 h2)⟩
theorem mostZ_comm (l : List Tie) (a b : Pt) : mostZ l a b = mostZ l b a := mostZ_of (mostIs_comm (mostZ_is l b a))
theorem leastZ_comm (l : List Tie) (a b : Pt) : leastZ l a b = leastZ l b a := by unfold leastZ; omega
theorem PtsOk.comm {l : List Tie} {n : Int} {a b : Pt} (h : PtsOk l n a b) : PtsOk l n b a := ⟨h.b1, h.b2, h.a1, h.a2, h.rb, h.ra⟩
end Go.Proofs.YtnedcclmfokdnaaGreat
