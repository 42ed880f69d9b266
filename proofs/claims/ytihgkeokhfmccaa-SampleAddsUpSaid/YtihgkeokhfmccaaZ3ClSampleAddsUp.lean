/- For every argument of SampleAddsUp: the ways of all samples of a size are together Choose of the whole, and Choose of the rest is the same (at most 20 barrows). No conditions besides those of the statement itself. -/
import Derived.Test.YtihgkeokhfmccaaZ3RowSampleAddsUp
import Derived.Test.YtihgkeokhfmccaaZ3SamAll
namespace Go.Proofs.Ytihgkeokhfmccaa

theorem SampleAddsUp_holds : Rows.SampleAddsUpSaid := SampleAddsUp_h sam
end Go.Proofs.Ytihgkeokhfmccaa
