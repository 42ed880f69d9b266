/- Check, Far, Clash, CheckClash, Suspects and Without return what the reference returns, for every input of the statement, with no further condition. -/
import Derived.Test.YtjpoacffnpgjdaaGreatZFRowFireChecks
namespace Go.Proofs.YtjpoacffnpgjdaaGreat
theorem FireChecks_holds : Rows.FireChecksSaid := FireChecks_h
end Go.Proofs.YtjpoacffnpgjdaaGreat
