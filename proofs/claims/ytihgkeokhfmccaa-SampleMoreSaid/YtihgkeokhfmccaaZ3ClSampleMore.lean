/- For every argument of SampleMore: More of package sample answers as the reference does. No conditions besides those of the statement itself. -/
import Derived.Test.YtihgkeokhfmccaaZ3RowSampleMore
import Derived.Test.YtihgkeokhfmccaaZ3SamAll
namespace Go.Proofs.Ytihgkeokhfmccaa

theorem SampleMore_holds : Rows.SampleMoreSaid := SampleMore_h sam
end Go.Proofs.Ytihgkeokhfmccaa
