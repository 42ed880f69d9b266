/- For every argument of SampleBelieves: all weights together are at least 1; they are 0 outside of Ends, and not at its ends; Believed of all numbers is 1, and of two spans next to each other the sum of both. No conditions besides those of the statement itself. -/
import Derived.Test.YtihgkeokhfmccaaZ3RowSampleBelieves
import Derived.Test.YtihgkeokhfmccaaZ3SamAll
namespace Go.Proofs.Ytihgkeokhfmccaa

theorem SampleBelieves_holds : Rows.SampleBelievesSaid := SampleBelieves_h sam
end Go.Proofs.Ytihgkeokhfmccaa
