import Derived.Test.YtnedcclmfokdnaaGreatJ25
namespace Go.Proofs.YtnedcclmfokdnaaGreat
open Go.RowKit
theorem less_check {k : Kl} (h : checkI k = 0) (ids : List Int) : checkI (lessK k ids) = 0 := (less_right (right_of_check h) ids).zero
end Go.Proofs.YtnedcclmfokdnaaGreat
