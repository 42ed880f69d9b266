/- Heats that fit burn between the ends of Burnt, Surely and Possibly; with a greater need nothing is more, for every input of the statement, with no further condition. -/
import Derived.Test.YtmiglaeabpaofaaZFRowFireSinks
namespace Go.Proofs.Ytmiglaeabpaofaa
theorem FireSinks_holds : Rows.FireSinksSaid := FireSinks_h
end Go.Proofs.Ytmiglaeabpaofaa
