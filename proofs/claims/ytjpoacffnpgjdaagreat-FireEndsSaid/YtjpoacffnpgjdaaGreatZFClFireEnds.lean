/- Ends, CheckEnds and Rests return what the reference returns, for every input of the statement, with no further condition. -/
import Derived.Test.YtjpoacffnpgjdaaGreatZFRowFireEnds
namespace Go.Proofs.YtjpoacffnpgjdaaGreat
theorem FireEnds_holds : Rows.FireEndsSaid := FireEnds_h
end Go.Proofs.YtjpoacffnpgjdaaGreat
