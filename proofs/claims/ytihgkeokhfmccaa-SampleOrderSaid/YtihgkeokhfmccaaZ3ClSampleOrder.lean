/- For every argument of SampleOrder: what is believed does not depend on the order of two samples, nor on whether they are told as one; and a batch of which all was seen has this whole alone. No conditions besides those of the statement itself. -/
import Derived.Test.YtihgkeokhfmccaaZ3RowSampleOrder
import Derived.Test.YtihgkeokhfmccaaZ3SamAll
namespace Go.Proofs.Ytihgkeokhfmccaa

theorem SampleOrder_holds : Rows.SampleOrderSaid := SampleOrder_h sam
end Go.Proofs.Ytihgkeokhfmccaa
