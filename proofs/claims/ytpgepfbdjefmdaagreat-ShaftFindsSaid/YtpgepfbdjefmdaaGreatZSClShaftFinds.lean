/- Find has weights that are true, or its error; Clash a circle exactly if there are none; CheckClash returns what the reference returns, for every input of the statement, with no further condition. -/
import Derived.Test.YtpgepfbdjefmdaaGreatZSRowShaftFinds
namespace Go.Proofs.YtpgepfbdjefmdaaGreat
theorem ShaftFinds_holds : Rows.ShaftFindsSaid := ShaftFinds_h
end Go.Proofs.YtpgepfbdjefmdaaGreat
