/- Weight, Run, Held, Below and Feet return what the reference returns, for every input of the statement, with no further condition. -/
import Derived.Test.YtpgepfbdjefmdaaGreatZSRowShaftEnds
namespace Go.Proofs.YtpgepfbdjefmdaaGreat
theorem ShaftEnds_holds : Rows.ShaftEndsSaid := ShaftEnds_h
end Go.Proofs.YtpgepfbdjefmdaaGreat
