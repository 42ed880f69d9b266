import Derived.Test.YtnedcclmfokdnaaGreatJ2
import Derived.Test.YtnedcclmfokdnaaGreatJ8
import Derived.Test.YtnedcclmfokdnaaGreatJ5
namespace Go.Proofs.YtnedcclmfokdnaaGreat
open Go.RowKit
noncomputable def sinkE (k : Kl) (l : Int) : Int := if pairE k k.ls l ≠ 0 then pairE k k.ls l else if canB (tiesL k) = true then 0 else 9
noncomputable def sinkS (k : Kl) (l : Int) : List Int := if sinkE k l = 0 then sureL (tiesL k) k.ds k.ls.length (loadP (place k.ls l)) k.ds.length else []
noncomputable def sinkM (k : Kl) (l : Int) : List Int := if sinkE k l = 0 then someL (tiesL k) k.ds k.ls.length (loadP (place k.ls l)) k.ds.length else []
end Go.Proofs.YtnedcclmfokdnaaGreat
