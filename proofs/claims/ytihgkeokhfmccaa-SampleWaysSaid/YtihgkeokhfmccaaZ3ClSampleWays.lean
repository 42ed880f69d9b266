/- For every argument of SampleWays: Choose, Ways and Chance of package sample answer as the reference does. No conditions besides those of the statement itself. -/
import Derived.Test.YtihgkeokhfmccaaZ3RowSampleWays
import Derived.Test.YtihgkeokhfmccaaZ3SamAll
namespace Go.Proofs.Ytihgkeokhfmccaa

theorem SampleWays_holds : Rows.SampleWaysSaid := SampleWays_h sam
end Go.Proofs.Ytihgkeokhfmccaa
