/- For every argument of SampleTogether: Together of package sample answers as the reference does (at most 16 batches). No conditions besides those of the statement itself. -/
import Derived.Test.YtihgkeokhfmccaaZ3RowSampleTogether
import Derived.Test.YtihgkeokhfmccaaZ3SamAll
namespace Go.Proofs.Ytihgkeokhfmccaa

theorem SampleTogether_holds : Rows.SampleTogetherSaid := SampleTogether_h sam
end Go.Proofs.Ytihgkeokhfmccaa
