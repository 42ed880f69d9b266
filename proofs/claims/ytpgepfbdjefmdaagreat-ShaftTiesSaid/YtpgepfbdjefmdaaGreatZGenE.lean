import Derived.Test.YtpgepfbdjefmdaaGreatJ4
import Derived.Lib.SmallJoins
import Derived.Laws.Tables
import Derived.Test.YtpgepfbdjefmdaaGreatJ11
namespace Go.Proofs.YtpgepfbdjefmdaaGreat
open Go.RowKit
theorem put1b {w : World} {b : Nat} {t : TypeId} {p : Value} (x : Value) (h : w.heap[b]? = some (.cells #[p] t)) : (w.setCell ⟨b, 0, none⟩ x).heap[b]? = some (.cells #[x] t) := by
  simpa using Joins.block_setCell (i := 0) h x
end Go.Proofs.YtpgepfbdjefmdaaGreat
