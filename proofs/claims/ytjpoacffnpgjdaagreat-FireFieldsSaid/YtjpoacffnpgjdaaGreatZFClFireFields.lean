/- Coolest, Hottest and Fits return what the reference returns, for every input of the statement, with no further condition. -/
import Derived.Test.YtjpoacffnpgjdaaGreatZFRowFireFields
namespace Go.Proofs.YtjpoacffnpgjdaaGreat
theorem FireFields_holds : Rows.FireFieldsSaid := FireFields_h
end Go.Proofs.YtjpoacffnpgjdaaGreat
