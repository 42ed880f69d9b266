/- For every argument of SampleBatches: Check, Wholes and Ends of package sample answer as the reference does. No conditions besides those of the statement itself. -/
import Derived.Test.YtihgkeokhfmccaaZ3RowSampleBatches
import Derived.Test.YtihgkeokhfmccaaZ3SamAll
namespace Go.Proofs.Ytihgkeokhfmccaa

theorem SampleBatches_holds : Rows.SampleBatchesSaid := SampleBatches_h sam
end Go.Proofs.Ytihgkeokhfmccaa
