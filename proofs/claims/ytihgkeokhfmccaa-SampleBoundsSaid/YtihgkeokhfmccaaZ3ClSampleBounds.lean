/- For every argument of SampleBounds: with the greater level Upper is not greater, and Lower not less; and bad barrows lie from Lower to Upper if what was seen is likely enough. No conditions besides those of the statement itself. -/
import Derived.Test.YtihgkeokhfmccaaZ3RowSampleBounds
import Derived.Test.YtihgkeokhfmccaaZ3SamAll
namespace Go.Proofs.Ytihgkeokhfmccaa

theorem SampleBounds_holds : Rows.SampleBoundsSaid := SampleBounds_h sam
end Go.Proofs.Ytihgkeokhfmccaa
