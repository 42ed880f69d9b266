/- Heats that fit lie between the ends, all low ends and all high ends fit, and they are those of Ends, which CheckEnds accepts, for every input of the statement, with no further condition. -/
import Derived.Test.YtjpoacffnpgjdaaZFRowFireBetween
namespace Go.Proofs.Ytjpoacffnpgjdaa
theorem FireBetween_holds : Rows.FireBetweenSaid := FireBetween_h
end Go.Proofs.Ytjpoacffnpgjdaa
