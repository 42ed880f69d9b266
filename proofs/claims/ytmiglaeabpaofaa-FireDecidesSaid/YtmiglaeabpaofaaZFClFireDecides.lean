/- A look that shows Needed makes sure that a spot is hot enough, one with a degree less does not; where Decides names a spot, its low end makes sure that the other is not, for every input of the statement, with no further condition. -/
import Derived.Test.YtmiglaeabpaofaaZFRowFireDecides
namespace Go.Proofs.Ytmiglaeabpaofaa
theorem FireDecides_holds : Rows.FireDecidesSaid := FireDecides_h
end Go.Proofs.Ytmiglaeabpaofaa
