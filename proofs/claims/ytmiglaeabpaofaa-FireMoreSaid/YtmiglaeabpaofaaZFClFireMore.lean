/- A further look moves no end outwards, one that tells just the ends of its spot none at all; Rests are the looks without which an end is another one, for every input of the statement, with no further condition. -/
import Derived.Test.YtmiglaeabpaofaaZFRowFireMore
namespace Go.Proofs.Ytmiglaeabpaofaa
theorem FireMore_holds : Rows.FireMoreSaid := FireMore_h
end Go.Proofs.Ytmiglaeabpaofaa
