/- For every argument of SampleSmallest: Smallest of package sample answers as the reference does (up to 20 barrows, or too many). No conditions besides those of the statement itself. -/
import Derived.Test.YtihgkeokhfmccaaZ3RowSampleSmallest
import Derived.Test.YtihgkeokhfmccaaZ3SamAll
namespace Go.Proofs.Ytihgkeokhfmccaa

theorem SampleSmallest_holds : Rows.SampleSmallestSaid := SampleSmallest_h sam
end Go.Proofs.Ytihgkeokhfmccaa
