/- For every argument of SampleLeast: the plan of Smallest accepts the good batch often enough, and the bad one seldom enough; no plan with a lesser sample does both (up to 20 barrows). No conditions besides those of the statement itself. -/
import Derived.Test.YtihgkeokhfmccaaZ3RowSampleLeast
import Derived.Test.YtihgkeokhfmccaaZ3SamAll
namespace Go.Proofs.Ytihgkeokhfmccaa

theorem SampleLeast_holds : Rows.SampleLeastSaid := SampleLeast_h sam
end Go.Proofs.Ytihgkeokhfmccaa
