/- With the looks of a fire turned, Ends, Clash and Suspects tell the same, for every input of the statement, with no further condition. -/
import Derived.Test.YtmiglaeabpaofaaZFRowFireAnyOrder
namespace Go.Proofs.Ytmiglaeabpaofaa
theorem FireAnyOrder_holds : Rows.FireAnyOrderSaid := FireAnyOrder_h
end Go.Proofs.Ytmiglaeabpaofaa
