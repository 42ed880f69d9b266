/- For every argument of SampleWider: CheckShortest accepts Shortest, which is believed so much; with the greater level it has no fewer numbers. No conditions besides those of the statement itself. -/
import Derived.Test.YtihgkeokhfmccaaZ3RowSampleWider
import Derived.Test.YtihgkeokhfmccaaZ3SamAll
namespace Go.Proofs.Ytihgkeokhfmccaa

theorem SampleWider_holds : Rows.SampleWiderSaid := SampleWider_h sam
end Go.Proofs.Ytihgkeokhfmccaa
