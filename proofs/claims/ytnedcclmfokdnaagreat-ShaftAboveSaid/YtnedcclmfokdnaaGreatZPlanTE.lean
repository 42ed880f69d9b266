import Derived.Test.YtnedcclmfokdnaaGreatJ10
namespace Go.Proofs.YtnedcclmfokdnaaGreat
open Go Go.RowKit
section
variable {P : Program} {ops : Array Oper} {w0 : World} {Q : Exit → Act → World → Prop} {S : Nat → Bool}
theorem wpTr_alt {E : List (Nat × Nat) → Act → World → Prop} {s t : Tr} {R : List (Nat × Nat)} {a : Act} {w : World} (h1 : wpTr P ops Q E s R a w) (h2 : wpTr P ops Q E t R a w) : wpTr P ops Q E (.alt s t) R a w := ⟨h1, h2⟩
end
end Go.Proofs.YtnedcclmfokdnaaGreat
