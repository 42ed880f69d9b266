/- For every argument of SampleBelief: Weights, Believed, Mean and Next of package sample answer as the reference does. No conditions besides those of the statement itself. -/
import Derived.Test.YtihgkeokhfmccaaZ3RowSampleBelief
import Derived.Test.YtihgkeokhfmccaaZ3SamAll
namespace Go.Proofs.Ytihgkeokhfmccaa

theorem SampleBelief_holds : Rows.SampleBeliefSaid := SampleBelief_h sam
end Go.Proofs.Ytihgkeokhfmccaa
