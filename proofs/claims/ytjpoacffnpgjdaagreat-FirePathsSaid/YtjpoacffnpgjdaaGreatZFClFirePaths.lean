/- CheckPath, Burnt, Surely and Possibly return what the reference returns, for every input of the statement, with no further condition. -/
import Derived.Test.YtjpoacffnpgjdaaGreatZFRowFirePaths
namespace Go.Proofs.YtjpoacffnpgjdaaGreat
theorem FirePaths_holds : Rows.FirePathsSaid := FirePaths_h
end Go.Proofs.YtjpoacffnpgjdaaGreat
