/- Would, Needed and Decides return what the reference returns, for every input of the statement, with no further condition. -/
import Derived.Test.YtjpoacffnpgjdaaGreatZFRowFireLooks
namespace Go.Proofs.YtjpoacffnpgjdaaGreat
theorem FireLooks_holds : Rows.FireLooksSaid := FireLooks_h
end Go.Proofs.YtjpoacffnpgjdaaGreat
