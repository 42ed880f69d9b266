/- For every argument of SamplePlans: Pass and PassTwice of package sample answer as the reference does. No conditions besides those of the statement itself. -/
import Derived.Test.YtihgkeokhfmccaaZ3RowSamplePlans
import Derived.Test.YtihgkeokhfmccaaZ3SamAll
namespace Go.Proofs.Ytihgkeokhfmccaa

theorem SamplePlans_holds : Rows.SamplePlansSaid := SamplePlans_h sam
end Go.Proofs.Ytihgkeokhfmccaa
