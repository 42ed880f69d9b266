/- All contracts of package sample under one name: what the laws ask of the program is so. -/
import Derived.Test.YtaaeipjnhjgjdaaJ19
import Derived.Test.YtaaeipjnhjgjdaaJ21
import Derived.Test.YtaaeipjnhjgjdaaJ26
import Derived.Test.YtaaeipjnhjgjdaaJ28
import Derived.Test.YtaaeipjnhjgjdaaJ18
import Derived.Test.YtaaeipjnhjgjdaaJ27
import Derived.Test.YtaaeipjnhjgjdaaJ20
import Derived.Test.YtaaeipjnhjgjdaaJ24
import Derived.Test.YtaaeipjnhjgjdaaJ25
import Derived.Test.YtaaeipjnhjgjdaaJ12
namespace Go.Proofs.Ytaaeipjnhjgjdaa
open Go Go.RowKit

theorem sam : Sam where
  Choose := fun n k w => Choose_c n k w
  Check := fun b w => Check_c b w
  Ends := fun b s w => Ends_c b s w
  Ways := fun x s w => Ways_c x s w
  Chance := fun x s w => Chance_c x s w
  Believed := fun b s p w => Believed_c b s p w
  Shortest := fun b s r w => Shortest_c b s r w
  CheckShortest := fun b s r p w => CheckShortest_c b s r p w
  Mean := fun b s w => Mean_c b s w
  Next := fun b s w => Next_c b s w
  More := fun b s w => More_c b s w
  AtMost := fun n m t k w => AtMost_c n m t k w
  Upper := fun n t k r w => Upper_c n t k r w
  Lower := fun n t k r w => Lower_c n t k r w
  Pass := fun n m p w => Pass_c n m p w
  PassTwice := fun n m d w => PassTwice_c n m d w
  Smallest := fun n g m a r w => Smallest_c n g m a r w
  Wholes := fun b w => Wholes_c b w
  Weights := fun b s w => Weights_c b s w
  Together := fun l s p v w h => Together_c l s p v w h
end Go.Proofs.Ytaaeipjnhjgjdaa
