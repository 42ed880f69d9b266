/- Rests, Suspects and Without return what the reference returns, for every input of the statement, with no further condition. -/
import Derived.Test.YtnedcclmfokdnaaGreatZSRowShaftFewer
namespace Go.Proofs.YtnedcclmfokdnaaGreat
theorem ShaftFewer_holds : Rows.ShaftFewerSaid := ShaftFewer_h
end Go.Proofs.YtnedcclmfokdnaaGreat
