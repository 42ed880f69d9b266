/- For every argument of SampleLevels: AtMost, Upper and Lower of package sample answer as the reference does. No conditions besides those of the statement itself. -/
import Derived.Test.YtihgkeokhfmccaaZ3RowSampleLevels
import Derived.Test.YtihgkeokhfmccaaZ3SamAll
namespace Go.Proofs.Ytihgkeokhfmccaa

theorem SampleLevels_holds : Rows.SampleLevelsSaid := SampleLevels_h sam
end Go.Proofs.Ytihgkeokhfmccaa
