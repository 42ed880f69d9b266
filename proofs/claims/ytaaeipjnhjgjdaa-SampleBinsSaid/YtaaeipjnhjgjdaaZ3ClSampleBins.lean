/- For every argument of SampleBins: New, Draw and Back, and behind each step Batch, of a bin of package sample answer as the reference does (at most 60 steps). No conditions besides those of the statement itself. -/
import Derived.Test.YtaaeipjnhjgjdaaZ3RowSampleBins
import Derived.Test.YtaaeipjnhjgjdaaZ3SamAll
namespace Go.Proofs.Ytaaeipjnhjgjdaa

theorem SampleBins_holds : Rows.SampleBinsSaid := SampleBins_h sam
end Go.Proofs.Ytaaeipjnhjgjdaa
