/- For every argument of SampleShortest: Shortest and CheckShortest of package sample answer as the reference does. No conditions besides those of the statement itself. -/
import Derived.Test.YtihgkeokhfmccaaZ3RowSampleShortest
import Derived.Test.YtihgkeokhfmccaaZ3SamAll
namespace Go.Proofs.Ytihgkeokhfmccaa

theorem SampleShortest_holds : Rows.SampleShortestSaid := SampleShortest_h sam
end Go.Proofs.Ytihgkeokhfmccaa
