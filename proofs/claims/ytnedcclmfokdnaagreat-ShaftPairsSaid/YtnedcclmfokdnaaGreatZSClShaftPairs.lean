/- Sources and Sinks return what the reference returns, for every input of the statement, with no further condition. -/
import Derived.Test.YtnedcclmfokdnaaGreatZSRowShaftPairs
namespace Go.Proofs.YtnedcclmfokdnaaGreat
theorem ShaftPairs_holds : Rows.ShaftPairsSaid := ShaftPairs_h
end Go.Proofs.YtnedcclmfokdnaaGreat
