/- For every argument of SampleSums: the spans of Together lie within Ends, are reached, get no wider by a narrower sum, and are Ends if the sum may be anything (at most 6 batches). No conditions besides those of the statement itself. -/
import Derived.Test.YtihgkeokhfmccaaZ3RowSampleSums
import Derived.Test.YtihgkeokhfmccaaZ3SamAll
namespace Go.Proofs.Ytihgkeokhfmccaa

theorem SampleSums_holds : Rows.SampleSumsSaid := SampleSums_h sam
end Go.Proofs.Ytihgkeokhfmccaa
