/- Ends has an answer exactly if Clash finds nothing; CheckClash accepts what Clash returns; Suspects are in the pair that clashes, and without one of them the others agree, for every input of the statement, with no further condition. -/
import Derived.Test.YtmiglaeabpaofaaZFRowFireContradicts
namespace Go.Proofs.Ytmiglaeabpaofaa
theorem FireContradicts_holds : Rows.FireContradictsSaid := FireContradicts_h
end Go.Proofs.Ytmiglaeabpaofaa
