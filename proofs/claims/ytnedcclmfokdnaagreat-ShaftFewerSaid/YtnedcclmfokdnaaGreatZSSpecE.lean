import Derived.Test.YtnedcclmfokdnaaGreatJ2
import Derived.Test.YtnedcclmfokdnaaGreatJ8
import Derived.Test.YtnedcclmfokdnaaGreatJ5
namespace Go.Proofs.YtnedcclmfokdnaaGreat
open Go.RowKit
noncomputable def suspE (k : Kl) : List Int := if checkI k = 0 ∧ canB (tiesL k) = false then sortI (needL k (fun k' => canB (tiesL k')) k.ws.length) else []
end Go.Proofs.YtnedcclmfokdnaaGreat
