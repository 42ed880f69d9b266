/- The least of what a draw takes of all loads together is at most its greatest weight, the greatest ones together at least its least one; Sources are the loads of which it takes more than nothing; a load between two sure ones that surely weighs something is sure; none is charged later, for every input of the statement, with no further condition. -/
import Derived.Test.YtnedcclmfokdnaaGreatZSRowShaftShares
namespace Go.Proofs.YtnedcclmfokdnaaGreat
theorem ShaftShares_holds : Rows.ShaftSharesSaid := ShaftShares_h
end Go.Proofs.YtnedcclmfokdnaaGreat
