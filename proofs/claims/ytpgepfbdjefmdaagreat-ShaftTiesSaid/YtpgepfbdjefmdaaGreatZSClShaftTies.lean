/- Check, Ties and Fits return what the reference returns, for every input of the statement, with no further condition. -/
import Derived.Test.YtpgepfbdjefmdaaGreatZSRowShaftTies
namespace Go.Proofs.YtpgepfbdjefmdaaGreat
theorem ShaftTies_holds : Rows.ShaftTiesSaid := ShaftTies_h
end Go.Proofs.YtpgepfbdjefmdaaGreat
