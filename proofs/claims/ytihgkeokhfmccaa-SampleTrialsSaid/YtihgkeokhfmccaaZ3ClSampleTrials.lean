/- For every argument of SampleTrials: with one more bad barrow a plan accepts in no more samples, with a greater Accept in no fewer; and a second sample of no barrows changes nothing. No conditions besides those of the statement itself. -/
import Derived.Test.YtihgkeokhfmccaaZ3RowSampleTrials
import Derived.Test.YtihgkeokhfmccaaZ3SamAll
namespace Go.Proofs.Ytihgkeokhfmccaa

theorem SampleTrials_holds : Rows.SampleTrialsSaid := SampleTrials_h sam
end Go.Proofs.Ytihgkeokhfmccaa
