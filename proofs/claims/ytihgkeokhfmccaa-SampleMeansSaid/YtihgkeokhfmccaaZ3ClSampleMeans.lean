/- For every argument of SampleMeans: each Mean lies within Ends; the three Means are together Barrows, and the three Nexts 1, by Weights. No conditions besides those of the statement itself. -/
import Derived.Test.YtihgkeokhfmccaaZ3RowSampleMeans
import Derived.Test.YtihgkeokhfmccaaZ3SamAll
namespace Go.Proofs.Ytihgkeokhfmccaa

theorem SampleMeans_holds : Rows.SampleMeansSaid := SampleMeans_h sam
end Go.Proofs.Ytihgkeokhfmccaa
