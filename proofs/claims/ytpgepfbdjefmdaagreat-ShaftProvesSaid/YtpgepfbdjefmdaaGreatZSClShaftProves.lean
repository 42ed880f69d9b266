/- CheckAbove accepts what Above returns, and no chain with another Most; CheckClash accepts what Clash returns; if it accepts any circle, no weights are true, and there is no chain, for every input of the statement, with no further condition. -/
import Derived.Test.YtpgepfbdjefmdaaGreatZSRowShaftProves
namespace Go.Proofs.YtpgepfbdjefmdaaGreat
theorem ShaftProves_holds : Rows.ShaftProvesSaid := ShaftProves_h
end Go.Proofs.YtpgepfbdjefmdaaGreat
