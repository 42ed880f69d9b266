/- Above has the number of the reference, with a chain that it accepts, or its error; CheckAbove returns what it returns, for every input of the statement, with no further condition. -/
import Derived.Test.YtnedcclmfokdnaaGreatZSRowShaftAbove
namespace Go.Proofs.YtnedcclmfokdnaaGreat
theorem ShaftAbove_holds : Rows.ShaftAboveSaid := ShaftAbove_h
end Go.Proofs.YtnedcclmfokdnaaGreat
