/- Took returns what the reference returns; Taking weights that are true, with which just this is taken, or its error, for every input of the statement, with no further condition. -/
import Derived.Test.YtpgepfbdjefmdaaGreatZSRowShaftTakes
namespace Go.Proofs.YtpgepfbdjefmdaaGreat
theorem ShaftTakes_holds : Rows.ShaftTakesSaid := ShaftTakes_h
end Go.Proofs.YtpgepfbdjefmdaaGreat
